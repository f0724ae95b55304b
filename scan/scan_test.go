package scan_test

import (
	"bytes"
	"math"
	"math/big"
	"strconv"
	"strings"
	"testing"

	"astrarium/api"
	"astrarium/scan"
)

func same[T comparable](t *testing.T, what string, got, want T) {
	t.Helper()
	if got != want {
		t.Errorf("%s: %#v, not %#v", what, got, want)
	}
}

// stands: after so many bytes of all, just what is behind them is left.
func stands(t *testing.T, what string, r *scan.Reader, all string, at int) {
	t.Helper()
	same(t, what+": At", r.At(), at)
	same(t, what+": Left", r.Left(), len(all)-at)
	same(t, what+": Rest", string(r.Rest()), all[at:])
	peek := -1
	if at < len(all) {
		peek = int(all[at])
	}
	same(t, what+": Peek", r.Peek(), peek)
}

func byteIs(t *testing.T, what string, r *scan.Reader, want byte, ok bool) {
	t.Helper()
	got, gotOk := r.Byte()
	if got != want || gotOk != ok {
		t.Errorf("%s: Byte %d, %v, not %d, %v", what, got, gotOk, want, ok)
	}
}

func wantIs(t *testing.T, what string, r *scan.Reader, s string, at int, kind api.Fault) {
	t.Helper()
	gotAt, gotKind := r.Want(s)
	if gotAt != at || gotKind != kind {
		t.Errorf("%s: Want of %q %d, %d, not %d, %d", what, s, gotAt, gotKind, at, kind)
	}
}

func numberIs(t *testing.T, what string, r *scan.Reader, most, n int, kind api.Fault) {
	t.Helper()
	got, gotKind := r.Number(most)
	if got != n || gotKind != kind {
		t.Errorf("%s: Number of %d %d, %d, not %d, %d", what, most, got, gotKind, n, kind)
	}
}

// after: a reader that has read so many bytes of all.
func after(all string, at int) *scan.Reader {
	r := scan.New([]byte(all))
	for range at {
		r.Byte()
	}
	return r
}

// texts: all of these letters, of at most so many.
func texts(letters string, most int) []string {
	list := []string{""}
	for from := 0; most > 0; most-- {
		end := len(list)
		for _, shorter := range list[from:end] {
			for i := range len(letters) {
				list = append(list, shorter+letters[i:i+1])
			}
		}
		from = end
	}
	return list
}

// TestNil: what each method answers of nil, however often it is asked.
func TestNil(t *testing.T) {
	var none *scan.Reader
	for range 2 {
		stands(t, "nil", none, "", 0)
		byteIs(t, "nil", none, 0, false)
		for _, s := range []string{"", "a", "12", "\x00"} {
			wantIs(t, "nil", none, s, 0, api.Truncated)
		}
		for _, most := range []int{math.MinInt, -1, 0, 9, math.MaxInt} {
			numberIs(t, "nil", none, most, 0, api.Truncated)
		}
	}
}

// TestEmpty: of no bytes nothing is read; only a text without a byte comes.
func TestEmpty(t *testing.T) {
	for _, r := range []*scan.Reader{scan.New(nil), scan.New([]byte{}), scan.New([]byte("abc")[:0]), {}, after("abc", 3)} {
		all := strings.Repeat("x", r.At())
		for range 2 {
			stands(t, "empty", r, all, len(all))
			byteIs(t, "empty", r, 0, false)
			wantIs(t, "empty", r, "", -1, api.OK)
			wantIs(t, "empty", r, "a", len(all), api.Truncated)
			numberIs(t, "empty", r, 9, 0, api.Truncated)
			numberIs(t, "empty", r, -1, 0, api.Truncated)
		}
	}
}

// TestP301: each byte there may be comes, in its order, with its offset.
func TestP301(t *testing.T) {
	var all []byte
	for c := range 256 {
		all = append(all, byte(c))
	}
	for c := range 256 {
		all = append(all, byte(255-c))
	}
	r := scan.New(all)
	for at, c := range all {
		stands(t, "ahead of Byte", r, string(all), at)
		byteIs(t, "Byte", r, c, true)
	}
	stands(t, "at the end", r, string(all), len(all))
	byteIs(t, "at the end", r, 0, false)
	stands(t, "beyond the end", r, string(all), len(all))
}

// TestP301Asked: what only asks reads nothing, however often it asks.
func TestP301Asked(t *testing.T) {
	r := after("abc", 1)
	for range 3 {
		stands(t, "asked", r, "abc", 1)
	}
	byteIs(t, "asked", r, 'b', true)
}

// TestP301Rest: another list, at each place: what is written to it, or behind it, is not read.
func TestP301Rest(t *testing.T) {
	const all = "12 34"
	for at := range len(all) + 1 {
		r := after(all, at)
		first, second := r.Rest(), r.Rest()
		for i := range first {
			first[i] = 'x'
		}
		_ = append(first[:0], "xxxxxxxx"...)
		same(t, "another Rest", string(second), all[at:])
		stands(t, "Rest, written to", r, all, at)
		for ; at < len(all); at++ {
			byteIs(t, "Rest, written to", r, all[at], true)
		}
	}
}

// TestP301Kept: what is handed in stays as it is, its spare room too; what is done to it later is not read.
func TestP301Kept(t *testing.T) {
	room := []byte("aag 12 007 and what lies behind")
	was := bytes.Clone(room)
	r := scan.New(room[:10])
	wantIs(t, "kept", r, "aag ", -1, api.OK)
	numberIs(t, "kept", r, 99, 12, api.OK)
	byteIs(t, "kept", r, ' ', true)
	numberIs(t, "kept", r, 99, 0, api.Number)
	_ = append(r.Rest(), "xyz"...)
	same(t, "what is handed in", string(room), string(was))

	for i := range room {
		room[i] = '5'
	}
	stands(t, "what is handed in, written to", r, "aag 12 007", 7)
	byteIs(t, "what is handed in, written to", r, '0', true)
	same(t, "what is handed in, then", string(room), strings.Repeat("5", len(room)))
}

// TestP301Two: readers of the same bytes go each their way.
func TestP301Two(t *testing.T) {
	b := []byte("abc")
	one, two := scan.New(b), scan.New(b)
	byteIs(t, "one", one, 'a', true)
	wantIs(t, "one", one, "b", -1, api.OK)
	stands(t, "one", one, "abc", 2)
	stands(t, "two", two, "abc", 0)
}

// TestP302: the text is read, all of it or nothing; else the first byte that is another one is told.
func TestP302(t *testing.T) {
	const all = "xx aag 12\n"
	for _, c := range []struct {
		at   int
		s    string
		told int
		kind api.Fault
	}{
		{3, "aag ", -1, api.OK},
		{3, "a", -1, api.OK},
		{3, "", -1, api.OK},
		{3, "aag 12\n", -1, api.OK},
		{3, "aagm ", 6, api.Syntax},
		{3, "b", 3, api.Syntax},
		{3, "A", 3, api.Syntax},
		{3, "ab", 4, api.Syntax},
		{3, "aag 13\n", 8, api.Syntax},
		{3, "aag 12 ", 9, api.Syntax},
		{3, "aag 13\n and more than is there", 8, api.Syntax},
		{3, "aag 12\n ", 10, api.Truncated},
		{3, "aag 12\nand more", 10, api.Truncated},
		{0, all, -1, api.OK},
		{0, all + "\x00", 10, api.Truncated},
		{9, "\n\n", 10, api.Truncated},
		{9, "\r\n", 9, api.Syntax},
		{10, "", -1, api.OK},
		{10, "\x00", 10, api.Truncated},
	} {
		r := after(all, c.at)
		wantIs(t, "P302", r, c.s, c.told, c.kind)
		read := 0
		if c.kind == api.OK {
			read = len(c.s)
		}
		stands(t, "after "+strconv.Quote(c.s), r, all, c.at+read)
	}
}

// TestP302Bytes: a text is bytes, whatever they are, not letters.
func TestP302Bytes(t *testing.T) {
	const all = "\x00\xff\xc3\xa4\xe2\x82\xac\x80"
	r := scan.New([]byte(all))
	wantIs(t, "half a letter", r, "\x00\xff\xc3\xa5", 3, api.Syntax)
	wantIs(t, "bytes", r, "\x00\xff\xc3", -1, api.OK)
	wantIs(t, "bytes", r, "\xa4\u20ac", -1, api.OK)
	wantIs(t, "what is no letter, for another", r, "\xff", 7, api.Syntax)
	wantIs(t, "a letter's first byte, behind another", r, "\u0080", 7, api.Syntax)
	wantIs(t, "bytes", r, "\x80", -1, api.OK)
	stands(t, "bytes", r, all, len(all))
}

// TestP302Each: of short texts each, against what the library says comes first.
func TestP302Each(t *testing.T) {
	list := texts("ab", 4)
	for _, all := range list {
		for _, s := range list {
			for at := range len(all) + 1 {
				left := all[at:]
				alike := 0
				for alike < len(s) && strings.HasPrefix(left, s[:alike+1]) {
					alike++
				}
				r := after(all, at)
				what := strconv.Quote(left)
				switch {
				case alike == len(s):
					wantIs(t, what, r, s, -1, api.OK)
					at += len(s)
				case alike == len(left):
					wantIs(t, what, r, s, at+alike, api.Truncated)
				default:
					wantIs(t, what, r, s, at+alike, api.Syntax)
				}
				stands(t, what, r, all, at)
			}
		}
	}
}

// TestP303: numbers that are read, and those that are not, at 0 and behind something.
func TestP303(t *testing.T) {
	const top = "9223372036854775807"
	for _, c := range []struct {
		text string
		most int
		n    int
		read int
		kind api.Fault
	}{
		{"12", 12, 12, 2, api.OK},
		{"12", 13, 12, 2, api.OK},
		{"12", 11, 0, 0, api.Number},
		{"12", 9, 0, 0, api.Number},
		{"12", 1, 0, 0, api.Number},
		{"12 34", 99, 12, 2, api.OK},
		{"12a", 99, 12, 2, api.OK},
		{"12\n", 99, 12, 2, api.OK},
		{"12\x00", 99, 12, 2, api.OK},
		{"12/", 99, 12, 2, api.OK},
		{"12:", 99, 12, 2, api.OK},
		{"12-3", 99, 12, 2, api.OK},
		{"12.0", 99, 12, 2, api.OK},
		{"1_2", 99, 1, 1, api.OK},
		{"0", 0, 0, 1, api.OK},
		{"0", math.MaxInt, 0, 1, api.OK},
		{"0 0", 5, 0, 1, api.OK},
		{"0x10", 99, 0, 1, api.OK},
		{"100", 100, 100, 3, api.OK},
		{"100", 99, 0, 0, api.Number},
		{"1234567890", math.MaxInt, 1234567890, 10, api.OK},
		{"1099511627776", 1 << 40, 1 << 40, 13, api.OK},
		{"1099511627777", 1 << 40, 0, 0, api.Number},
		{"1", 0, 0, 0, api.Number},
		{"00", 9, 0, 0, api.Number},
		{"01", 9, 0, 0, api.Number},
		{"007", 9, 0, 0, api.Number},
		{"00 ", 9, 0, 0, api.Number},
		{"012", 99, 0, 0, api.Number},
		{"0", -1, 0, 0, api.Number},
		{"0", math.MinInt, 0, 0, api.Number},
		{"5", -1, 0, 0, api.Number},
		{"5", -5, 0, 0, api.Number},
		{"5", -9, 0, 0, api.Number},
		{"9", -10, 0, 0, api.Number},
		{"00", -1, 0, 0, api.Number},
		{top, math.MaxInt, math.MaxInt, 19, api.OK},
		{top + " ", math.MaxInt, math.MaxInt, 19, api.OK},
		{top, math.MaxInt - 1, 0, 0, api.Number},
		{"9223372036854775806", math.MaxInt - 1, math.MaxInt - 1, 19, api.OK},
		{"9223372036854775808", math.MaxInt, 0, 0, api.Number},
		{"9223372036854775809", math.MaxInt, 0, 0, api.Number},
		{"9223372036854775810", math.MaxInt, 0, 0, api.Number},
		{top + "0", math.MaxInt, 0, 0, api.Number},
		{"18446744073709551616", math.MaxInt, 0, 0, api.Number},
		{"18446744073709551621", math.MaxInt, 0, 0, api.Number},
		{"99999999999999999999999999", math.MaxInt, 0, 0, api.Number},
		{"10000000000000000000", math.MaxInt, 0, 0, api.Number},
		{"", 9, 0, 0, api.Truncated},
		{"", -1, 0, 0, api.Truncated},
		{"", math.MinInt, 0, 0, api.Truncated},
		{" 12", 99, 0, 0, api.Syntax},
		{"-1", 99, 0, 0, api.Syntax},
		{"+1", 99, 0, 0, api.Syntax},
		{"a", 99, 0, 0, api.Syntax},
		{"a", -1, 0, 0, api.Syntax},
		{"\n", math.MinInt, 0, 0, api.Syntax},
		{"\x00", 99, 0, 0, api.Syntax},
		{"\u0663", 99, 0, 0, api.Syntax},
		{"\xff1", 99, 0, 0, api.Syntax},
	} {
		for _, ahead := range []string{"", "7", "0", "aag "} {
			all := ahead + c.text
			r := after(all, len(ahead))
			numberIs(t, strconv.Quote(c.text), r, c.most, c.n, c.kind)
			stands(t, "after "+strconv.Quote(c.text), r, all, len(ahead)+c.read)
		}
	}
}

// TestP303Bytes: a number begins with the ten digits alone, and ends ahead of all other bytes.
func TestP303Bytes(t *testing.T) {
	for i := range 256 {
		c := byte(i)
		alone, behind := scan.New([]byte{c}), scan.New([]byte{'1', c})
		if '0' <= c && c <= '9' {
			numberIs(t, "a digit", alone, 99, i-'0', api.OK)
			numberIs(t, "two digits", behind, 99, 10+i-'0', api.OK)
			continue
		}
		numberIs(t, "no digit", alone, 99, 0, api.Syntax)
		stands(t, "no digit", alone, string([]byte{c}), 0)
		numberIs(t, "a digit, and none", behind, 99, 1, api.OK)
		stands(t, "a digit, and none", behind, string([]byte{'1', c}), 1)
	}
}

// told: what Number answers of a text, how much it reads, by the library.
func told(text string, most int) (int, int, api.Fault) {
	if text == "" {
		return 0, 0, api.Truncated
	}
	length := len(text) - len(strings.TrimLeft(text, "0123456789"))
	if length == 0 {
		return 0, 0, api.Syntax
	}
	n, ok := new(big.Int).SetString(text[:length], 10)
	if !ok || n.String() != text[:length] || n.Cmp(big.NewInt(int64(most))) > 0 {
		return 0, 0, api.Number
	}
	return int(n.Int64()), length, api.OK
}

// asTold: a reader of the text answers what is told of it.
func asTold(t *testing.T, text string, most int) {
	t.Helper()
	n, read, kind := told(text, most)
	r := scan.New([]byte(text))
	numberIs(t, strconv.Quote(text), r, most, n, kind)
	stands(t, strconv.Quote(text), r, text, read)
}

// TestP303Each: of short texts each, against the library's numbers.
func TestP303Each(t *testing.T) {
	for _, text := range texts("0129 ", 4) {
		for most := -12; most <= 130; most++ {
			asTold(t, text, most)
		}
		for _, most := range []int{math.MinInt, 999, 1000, 9998, 9999, math.MaxInt} {
			asTold(t, text, most)
		}
	}
}

// TestP303Near: numbers about a power of 2, up to such as leave int, for a most about it, up to the greatest.
func TestP303Near(t *testing.T) {
	for power := range uint(70) {
		for off := int64(-11); off <= 11; off++ {
			n := new(big.Int).Lsh(big.NewInt(1), power)
			n.Add(n, big.NewInt(off))
			if n.Sign() < 0 {
				continue
			}
			text := n.String()
			asTold(t, text, math.MaxInt)
			asTold(t, text, math.MaxInt-1)
			asTold(t, text+"0", math.MaxInt)
			asTold(t, "0"+text, math.MaxInt)
			if n.IsInt64() {
				most := int(n.Int64())
				asTold(t, text, most)
				asTold(t, text, most-1)
				asTold(t, text, max(most, most+1))
				asTold(t, text, -most)
				asTold(t, text+"0", most)
			}
		}
	}
}

// TestP303Long: of digits without end none are read, and the call ends.
func TestP303Long(t *testing.T) {
	for _, digits := range []string{"0", "1", "9"} {
		all := strings.Repeat(digits, 1<<20)
		r := scan.New([]byte(all))
		numberIs(t, "long", r, math.MaxInt, 0, api.Number)
		same(t, "long: At", r.At(), 0)
		same(t, "long: Left", r.Left(), len(all))
	}
}

// step: one of eight calls; what it reads, as it says itself.
func step(r *scan.Reader, kind uint32) (string, bool) {
	switch kind % 8 {
	case 0, 1:
		c, ok := r.Byte()
		if !ok {
			return "", false
		}
		return string([]byte{c}), true
	case 2, 3, 4:
		most := []int{math.MaxInt, 12, -1}[kind%8-2]
		n, kind := r.Number(most)
		if kind != api.OK {
			return "", false
		}
		return strconv.Itoa(n), true
	}
	s := []string{"1 ", "a0", "\n"}[kind%8-5]
	_, fault := r.Want(s)
	return s, fault == api.OK
}

// TestP304: whatever is called, in whatever order: what is refused is not read, and what was read and what is left are all bytes.
func TestP304(t *testing.T) {
	row := uint32(1) // a row of numbers without a rule to be seen, the same each time
	next := func() uint32 {
		row ^= row << 13
		row ^= row >> 17
		row ^= row << 5
		return row >> 8
	}
	for range 500 {
		var all []byte
		for range next() % 40 {
			all = append(all, "0019a \n"[next()%7])
		}
		r := scan.New(all)
		read := ""
		for range 400 { // of which far more than are needed read a byte
			before := r.At()
			got, ok := step(r, next())
			if !ok {
				same(t, "At, of what is refused", r.At(), before)
				got = ""
			}
			read += got
			same(t, "At", r.At(), len(read))
			same(t, "Left", r.Left(), len(all)-len(read))
			same(t, "what was read and what is left", read+string(r.Rest()), string(all))
		}
		same(t, "what was read", read, string(all))
	}
}

// TestExample: the chapter's.
func TestExample(t *testing.T) {
	r := scan.New([]byte("12"))
	numberIs(t, "Number(9)", r, 9, 0, api.Number)
	stands(t, "Number(9)", r, "12", 0)
	numberIs(t, "Number(12)", r, 12, 12, api.OK)
}
