package bits_test

import (
	"math"
	"slices"
	"strconv"
	"strings"
	"testing"

	"astrarium/bits"
)

func same[T comparable](t *testing.T, what string, got, want T) {
	t.Helper()
	if got != want {
		t.Errorf("%s: %v, not %v", what, got, want)
	}
}

// sameBits: alike, bit by bit; an empty list is like nil.
func sameBits(t *testing.T, what string, got, want []bool) {
	t.Helper()
	if !slices.Equal(got, want) {
		t.Errorf("%s: %v, not %v", what, got, want)
	}
}

// chance: numbers that look like chance, the same in each run.
type chance uint64

func (c *chance) below(n int) int {
	*c = *c*6364136223846793005 + 1442695040888963407
	return int(uint64(*c) >> 33 % uint64(n))
}

// word: a word of any bits, now and then with few of them.
func (c *chance) word() uint64 {
	w := uint64(0)
	for range 8 {
		w = w<<8 | uint64(c.below(256))
	}
	return w >> c.below(65)
}

// list: so many bits.
func (c *chance) list(n int) []bool {
	l := make([]bool, n)
	for i := range l {
		l[i] = c.below(2) == 1
	}
	return l
}

// repeat: a bit, so often.
func repeat(bit bool, n int) []bool {
	return slices.Repeat([]bool{bit}, n)
}

// single: so many bits, of which one is true.
func single(n, at int) []bool {
	l := make([]bool, n)
	l[at] = true
	return l
}

// TestP1001Word: the lowest bit first; of more than 64 the first 64.
func TestP1001Word(t *testing.T) {
	for _, x := range []struct {
		l    []bool
		want uint64
	}{
		{nil, 0},
		{[]bool{}, 0},
		{[]bool{false}, 0},
		{[]bool{true}, 1},
		{[]bool{false, true}, 2},
		{[]bool{true, false}, 1},
		{[]bool{true, false, true}, 5},
		{[]bool{false, false, true, true, false}, 12},
		{repeat(true, 8), 255},
		{repeat(true, 63), math.MaxInt64},
		{repeat(true, 64), math.MaxUint64},
		{repeat(true, 65), math.MaxUint64},
		{repeat(true, 5000), math.MaxUint64},
		{single(64, 63), 1 << 63},
		{single(65, 63), 1 << 63},
		{single(65, 64), 0},
		{single(129, 128), 0},
		{single(200, 32), 1 << 32},
	} {
		same(t, "Word of "+bits.Text(x.l), bits.Word(x.l), x.want)
	}
}

// TestP1001Bools: the first n bits; n is from 0 to 64.
func TestP1001Bools(t *testing.T) {
	for _, x := range []struct {
		w    uint64
		n    int
		want []bool
	}{
		{0, 0, nil},
		{5, 0, nil},
		{5, -1, nil},
		{5, math.MinInt, nil},
		{5, 1, []bool{true}},
		{5, 2, []bool{true, false}},
		{5, 3, []bool{true, false, true}},
		{5, 5, []bool{true, false, true, false, false}},
		{6, 3, []bool{false, true, true}},
		{0, 64, repeat(false, 64)},
		{math.MaxUint64, 7, repeat(true, 7)},
		{math.MaxUint64, 63, repeat(true, 63)},
		{math.MaxUint64, 64, repeat(true, 64)},
		{math.MaxUint64, 65, repeat(true, 64)},
		{math.MaxUint64, 1 << 40, repeat(true, 64)},
		{math.MaxUint64, math.MaxInt, repeat(true, 64)},
		{1 << 63, 63, repeat(false, 63)},
		{1 << 63, 64, single(64, 63)},
		{1 << 32, 33, single(33, 32)},
	} {
		sameBits(t, "Bools of "+strconv.FormatUint(x.w, 2)+", "+strconv.Itoa(x.n), bits.Bools(x.w, x.n), x.want)
	}
}

// TestP1001Fits: no bit above the first n; n is from 0 to 64.
func TestP1001Fits(t *testing.T) {
	for _, x := range []struct {
		w    uint64
		n    int
		want bool
	}{
		{0, math.MinInt, true},
		{0, -1, true},
		{0, 0, true},
		{0, 64, true},
		{1, math.MinInt, false},
		{1, -64, false},
		{1, -1, false},
		{1, 0, false},
		{1, 1, true},
		{2, 1, false},
		{7, 3, true},
		{8, 3, false},
		{8, 4, true},
		{9, 3, false},
		{math.MaxUint64, 0, false},
		{math.MaxUint64, 63, false},
		{math.MaxUint64, 64, true},
		{math.MaxUint64, 65, true},
		{math.MaxUint64, math.MaxInt, true},
		{1 << 63, 63, false},
		{1 << 62, 63, true},
		{1 << 62, 62, false},
	} {
		same(t, "Fits of "+strconv.FormatUint(x.w, 2)+", "+strconv.Itoa(x.n), bits.Fits(x.w, x.n), x.want)
	}
}

// TestP1002Text: a letter each, in the list's order, however many.
func TestP1002Text(t *testing.T) {
	same(t, "Text of nil", bits.Text(nil), "")
	same(t, "Text of none", bits.Text([]bool{}), "")
	same(t, "Text", bits.Text([]bool{false}), "0")
	same(t, "Text", bits.Text([]bool{true}), "1")
	same(t, "Text", bits.Text([]bool{true, false, false}), "100")
	same(t, "Text", bits.Text([]bool{false, true, true, false}), "0110")
	same(t, "Text of 70", bits.Text(single(70, 69)), strings.Repeat("0", 69)+"1")
	same(t, "Text of 4096", bits.Text(repeat(true, 4096)), strings.Repeat("1", 4096))
	same(t, "Text of 5000", bits.Text(single(5000, 4999)), strings.Repeat("0", 4999)+"1")
}

// TestP1002Parse: the bits, in the text's order, up to 4096.
func TestP1002Parse(t *testing.T) {
	for _, x := range []struct {
		s    string
		want []bool
	}{
		{"", nil},
		{"0", []bool{false}},
		{"1", []bool{true}},
		{"100", []bool{true, false, false}},
		{"0110", []bool{false, true, true, false}},
		{strings.Repeat("0", 64) + "1", single(65, 64)},
		{strings.Repeat("1", 4095), repeat(true, 4095)},
		{strings.Repeat("1", 4096), repeat(true, 4096)},
		{strings.Repeat("0", 4095) + "1", single(4096, 4095)},
	} {
		l, ok := bits.Parse(x.s)
		same(t, "Parse", ok, true)
		sameBits(t, "Parse of "+x.s, l, x.want)
	}
}

// TestP1002Refused: other letters, wherever they stand; too many.
func TestP1002Refused(t *testing.T) {
	wrong := []string{
		strings.Repeat("0", 4097), strings.Repeat("1", 4097), strings.Repeat("0", 1<<16),
		strings.Repeat("1", 4096) + "\n", strings.Repeat("1", 4095) + "2", strings.Repeat("2", 4097),
		strings.Repeat("\u0661", 4000),
	}
	for b := range 256 {
		if b != '0' && b != '1' {
			other := string([]byte{byte(b)})
			wrong = append(wrong, other, other+"1", "0"+other, "10"+other+"01", other+other)
		}
	}
	for _, other := range []string{"٠", "١", "\uff10", "\uff11", "\u00b9", "\ufffd", "\U0001d7ce", "I", "O", "2", "x", "-", " ", "\x00"} {
		wrong = append(wrong, other, "1"+other, other+"0", "0"+other+"1")
	}
	for _, s := range wrong {
		l, ok := bits.Parse(s)
		same(t, "Parse of "+strconv.Quote(s), ok, false)
		same(t, "Parse of "+strconv.Quote(s)+": bits", len(l), 0)
	}
}

// TestP1003Eval: values of variables and their negations; false of 0, of what isn't there, of literals below 0.
func TestP1003Eval(t *testing.T) {
	values := []bool{false, true, false, true}
	for _, x := range []struct {
		l      int
		values []bool
		want   bool
	}{
		{0, values, false}, {1, values, true},
		{2, values, true}, {3, values, false},
		{4, values, false}, {5, values, true},
		{6, values, true}, {7, values, false},
		{8, values, false}, {9, values, true},
		{10, values, false}, {11, values, true},
		{0, nil, false}, {1, nil, true}, {2, nil, false}, {3, nil, true},
		{0, []bool{}, false}, {1, []bool{}, true}, {2, []bool{}, false}, {3, []bool{}, true},
		{0, []bool{true}, false}, {1, []bool{true}, true}, {2, []bool{true}, false}, {3, []bool{true}, true},
		{0, []bool{true, true}, false}, {1, []bool{true, true}, true},
		{-1, values, false}, {-2, values, false}, {-3, values, false}, {-4, values, false}, {-7, values, false},
		{-1, nil, false}, {-2, nil, false},
		{math.MinInt, values, false}, {math.MinInt + 1, values, false},
		{math.MaxInt - 1, values, false}, {math.MaxInt, values, true},
		{1 << 61, values, false}, {1<<61 + 1, values, true},
	} {
		same(t, "Eval of "+strconv.Itoa(x.l)+" by "+bits.Text(x.values), bits.Eval(x.l, x.values), x.want)
	}
}

// TestP1003Gather: the word of values, the lowest first; of more than 64 the first 64.
func TestP1003Gather(t *testing.T) {
	values := []bool{true, true, false}
	for _, x := range []struct {
		l      []int
		values []bool
		want   uint64
	}{
		{nil, values, 0},
		{[]int{}, nil, 0},
		{[]int{2}, values, 1},
		{[]int{3}, values, 0},
		{[]int{4, 5, 2}, values, 6},
		{[]int{0, 1, 0, 1}, values, 10},
		{[]int{1}, nil, 1},
		{[]int{6, 7, 1000, 1001}, values, 10},
		{[]int{-1, -2, -3, 2, -4}, values, 8},
		{[]int{math.MinInt, math.MaxInt, math.MaxInt - 1}, values, 2},
		{slices.Repeat([]int{2}, 63), values, math.MaxInt64},
		{slices.Repeat([]int{2}, 64), values, math.MaxUint64},
		{slices.Repeat([]int{2}, 65), values, math.MaxUint64},
		{slices.Repeat([]int{1}, 3000), nil, math.MaxUint64},
		{append(slices.Repeat([]int{0}, 63), 2), values, 1 << 63},
		{append(slices.Repeat([]int{0}, 64), 2), values, 0},
	} {
		same(t, "Gather", bits.Gather(x.l, x.values), x.want)
	}
}

// TestP1004Words: words and their bits, there and back.
func TestP1004Words(t *testing.T) {
	c := chance(1)
	for range 3000 {
		w, n := c.word(), c.below(68)-1
		back := bits.Word(bits.Bools(w, n))
		same(t, "Word of Bools, where it fits", back == w, bits.Fits(w, n))
		same(t, "what is back fits", bits.Fits(back, n), true)
		same(t, "Word of Bools of 64", bits.Word(bits.Bools(w, 64)), w)
		l := c.list(c.below(65))
		sameBits(t, "Bools of Word", bits.Bools(bits.Word(l), len(l)), l)
		same(t, "a list's word fits", bits.Fits(bits.Word(l), len(l)), true)
	}
}

// TestP1004Texts: lists and their texts, there and back.
func TestP1004Texts(t *testing.T) {
	c := chance(2)
	for n := 0; n <= 4096; n += 1 + c.below(9) {
		l := c.list(n)
		back, ok := bits.Parse(bits.Text(l))
		same(t, "Parse of Text", ok, true)
		sameBits(t, "Parse of Text", back, l)
		same(t, "Text of Parse", bits.Text(back), bits.Text(l))
	}
	for _, n := range []int{4096, 4097} {
		_, ok := bits.Parse(bits.Text(make([]bool, n)))
		same(t, "Parse of a Text of "+strconv.Itoa(n), ok, n <= 4096)
	}
}

// TestP1004Values: Gather is the Word of what Eval says; the literals of variables give the values back.
func TestP1004Values(t *testing.T) {
	c := chance(3)
	for range 3000 {
		values := c.list(c.below(70))
		var all, l []int
		for v := 1; v < len(values); v++ {
			all = append(all, 2*v)
		}
		for range c.below(70) {
			l = append(l, c.below(150)-5)
		}
		var each []bool
		for _, literal := range l {
			each = append(each, bits.Eval(literal, values))
			if literal >= 0 {
				same(t, "the other literal", bits.Eval(literal^1, values), !bits.Eval(literal, values))
			}
		}
		same(t, "Gather", bits.Gather(l, values), bits.Word(each))
		if len(values) > 0 {
			same(t, "Gather of all", bits.Gather(all, values), bits.Word(values[1:]))
		}
	}
}

// TestDrawn: against the library's texts of numbers.
func TestDrawn(t *testing.T) {
	c := chance(4)
	for range 3000 {
		w, n := c.word(), 1+c.below(64)
		letters := []byte(strconv.FormatUint(w, 2))
		same(t, "Fits", bits.Fits(w, n), w == 0 || len(letters) <= n)
		slices.Reverse(letters)
		long := string(letters) + strings.Repeat("0", 64-len(letters))
		same(t, "Text of Bools", bits.Text(bits.Bools(w, n)), long[:n])
		l, ok := bits.Parse(long)
		same(t, "Parse", ok, true)
		same(t, "Word of Parse", bits.Word(l), w)
		more, _ := bits.Parse(long + "1")
		same(t, "Word of 65", bits.Word(more), w)
	}
}

// TestKept: what is handed in stays, its spare room too; what is handed out is new.
func TestKept(t *testing.T) {
	room := []bool{true, false, true, true, true}
	bits.Word(room[:2])
	bits.Text(room[:2])
	bits.Eval(2, room[:2])
	sameBits(t, "bits", room, []bool{true, false, true, true, true})
	literals := []int{3, 2, 9, 8}
	bits.Gather(literals[:2], room[:3])
	sameBits(t, "values", room, []bool{true, false, true, true, true})
	if !slices.Equal(literals, []int{3, 2, 9, 8}) {
		t.Errorf("literals: %v", literals)
	}
	one, two := bits.Bools(5, 3), bits.Bools(5, 3)
	one[0] = false
	sameBits(t, "Bools", two, []bool{true, false, true})
	sameBits(t, "Bools", bits.Bools(5, 3), []bool{true, false, true})
	one, _ = bits.Parse("101")
	two, _ = bits.Parse("101")
	one[0] = false
	sameBits(t, "Parse", two, []bool{true, false, true})
}

// TestExample: the chapter's.
func TestExample(t *testing.T) {
	l := []bool{true, false, true}
	same(t, "Word", bits.Word(l), 5)
	same(t, "Text", bits.Text(l), "101")
}
