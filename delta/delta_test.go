package delta_test

import (
	"bytes"
	"encoding/binary"
	"math"
	"math/big"
	"testing"

	"astrarium/api"
	"astrarium/delta"
)

func same[T comparable](t *testing.T, what string, got, want T) {
	t.Helper()
	if got != want {
		t.Errorf("%s: %#v, not %#v", what, got, want)
	}
}

func takeIs(t *testing.T, b []byte, at, most, n, behind int, kind api.Fault) {
	t.Helper()
	gotN, gotBehind, gotKind := delta.Take(b, at, most)
	if gotN != n || gotBehind != behind || gotKind != kind {
		t.Errorf("Take of % x at %d up to %d: %d, %d, %d, not %d, %d, %d", b, at, most, gotN, gotBehind, gotKind, n, behind, kind)
	}
}

func pairIs(t *testing.T, lhs, a, b int, want string, kind api.Fault) {
	t.Helper()
	got, gotKind := delta.Pair(lhs, a, b)
	if string(got) != want || gotKind != kind {
		t.Errorf("Pair of %d, %d, %d: % x, %d, not % x, %d", lhs, a, b, got, gotKind, want, kind)
	}
}

func gateIs(t *testing.T, bytes string, at, lhs, a, b, behind int, kind api.Fault) {
	t.Helper()
	gotA, gotB, gotBehind, gotKind := delta.Gate([]byte(bytes), at, lhs)
	if gotA != a || gotB != b || gotBehind != behind || gotKind != kind {
		t.Errorf("Gate of % x at %d of %d: %d, %d, %d, %d, not %d, %d, %d, %d", bytes, at, lhs, gotA, gotB, gotBehind, gotKind, a, b, behind, kind)
	}
}

// filled: so many bytes 0xff, and these behind them.
func filled(length int, behind ...byte) []byte {
	return append(bytes.Repeat([]byte{0xff}, length), behind...)
}

// numbers: about each power of 2, up to the greatest int.
func numbers() []int {
	list := []int{math.MaxInt - 1, math.MaxInt}
	for power := range 63 {
		for off := -2; off <= 2; off++ {
			if n := 1<<power + off; n >= 0 {
				list = append(list, n)
			}
		}
	}
	return list
}

// strings: all of these bytes, of at most so many.
func strings(letters string, most int) []string {
	list := []string{""}
	for from := 0; most > 0; most-- {
		end := len(list)
		for _, shorter := range list[from:end] {
			for i := range len(letters) {
				list = append(list, shorter+letters[i:i+1])
			}
		}
		from = end
	}
	return list
}

// TestP401Put: the bytes of numbers, as few as can be.
func TestP401Put(t *testing.T) {
	for _, c := range []struct {
		n    int
		want string
	}{
		{0, "\x00"},
		{1, "\x01"},
		{2, "\x02"},
		{127, "\x7f"},
		{128, "\x80\x01"},
		{129, "\x81\x01"},
		{255, "\xff\x01"},
		{256, "\x80\x02"},
		{300, "\xac\x02"},
		{16383, "\xff\x7f"},
		{16384, "\x80\x80\x01"},
		{1<<21 - 1, "\xff\xff\x7f"},
		{1 << 21, "\x80\x80\x80\x01"},
		{0x7654321, "\xa1\x86\x95\x3b"},
		{1<<56 - 1, "\xff\xff\xff\xff\xff\xff\xff\x7f"},
		{1 << 56, "\x80\x80\x80\x80\x80\x80\x80\x80\x01"},
		{1 << 60, "\x80\x80\x80\x80\x80\x80\x80\x80\x10"},
		{math.MaxInt, "\xff\xff\xff\xff\xff\xff\xff\xff\x7f"},
		{-1, ""},
		{-2, ""},
		{-128, ""},
		{-300, ""},
		{math.MinInt, ""},
		{math.MinInt + 1, ""},
	} {
		got := delta.Put(c.n)
		if string(got) != c.want {
			t.Errorf("Put of %d: % x, not % x", c.n, got, c.want)
		}
	}
}

// TestP401PutEach: against the library's bytes, of small numbers and of such about the powers of 2.
func TestP401PutEach(t *testing.T) {
	list := numbers()
	for n := range 1 << 17 {
		list = append(list, n)
	}
	for _, n := range list {
		same(t, "Put", string(delta.Put(n)), string(binary.AppendUvarint(nil, uint64(n))))
	}
}

// TestP401PutNew: each answer is a list of its own.
func TestP401PutNew(t *testing.T) {
	for _, n := range []int{0, 5, 300, math.MaxInt} {
		want := string(delta.Put(n))
		one, two := delta.Put(n), delta.Put(n)
		for i := range one {
			one[i] = 0xee
		}
		_ = append(one[:0], "0123456789012345"...)
		same(t, "another Put", string(two), want)
		same(t, "a later Put", string(delta.Put(n)), want)
	}
}

// TestP401Take: numbers that are taken, and those that are not.
func TestP401Take(t *testing.T) {
	for _, c := range []struct {
		text string
		most int
		n    int
		read int
		kind api.Fault
	}{
		{"\x00", 0, 0, 1, api.OK},
		{"\x00", math.MaxInt, 0, 1, api.OK},
		{"\x00", -1, 0, 0, api.Number},
		{"\x00", math.MinInt, 0, 0, api.Number},
		{"\x01", 1, 1, 1, api.OK},
		{"\x01", 0, 0, 0, api.Number},
		{"\x7f", 127, 127, 1, api.OK},
		{"\x7f", 126, 0, 0, api.Number},
		{"\x7f\x00", 127, 127, 1, api.OK},
		{"\x00\x00", 127, 0, 1, api.OK},
		{"\x00\x80", 127, 0, 1, api.OK},
		{"\x80\x01", 128, 128, 2, api.OK},
		{"\x80\x01", 127, 0, 0, api.Number},
		{"\x80\x01\xff", 128, 128, 2, api.OK},
		{"\xac\x02", 300, 300, 2, api.OK},
		{"\xac\x02", 299, 0, 0, api.Number},
		{"\xac\x02", -300, 0, 0, api.Number},
		{"\xff\xff\x7f", 1<<21 - 1, 1<<21 - 1, 3, api.OK},
		{"\xff\xff\x7f", 1<<21 - 2, 0, 0, api.Number},
		// the bytes end
		{"", 9, 0, 0, api.Truncated},
		{"", -1, 0, 0, api.Truncated},
		{"\x80", 9, 0, 0, api.Truncated},
		{"\x80", -1, 0, 0, api.Truncated},
		{"\xff", 1, 0, 0, api.Truncated},
		{"\x80\x80", 9, 0, 0, api.Truncated},
		{"\xff\xff\xff", 1, 0, 0, api.Truncated},
		{string(filled(8)), math.MaxInt, 0, 0, api.Truncated},
		{string(filled(8)), 1, 0, 0, api.Truncated},
		// more bytes than as few as can be
		{"\x80\x00", 300, 0, 0, api.Number},
		{"\x81\x00", 300, 0, 0, api.Number},
		{"\xff\x00", 300, 0, 0, api.Number},
		{"\xff\x00\x01", 300, 0, 0, api.Number},
		{"\xac\x82\x00", 300, 0, 0, api.Number},
		{"\x80\x80\x00", 300, 0, 0, api.Number},
		{string(filled(8, 0)), math.MaxInt, 0, 0, api.Number},
		// nine bytes, and more
		{string(filled(8, 1)), math.MaxInt, 1<<57 - 1, 9, api.OK},
		{string(filled(8, 0x40)), math.MaxInt, 65<<56 - 1, 9, api.OK},
		{string(filled(8, 0x7f)), math.MaxInt, math.MaxInt, 9, api.OK},
		{string(filled(8, 0x7f, 0xff)), math.MaxInt, math.MaxInt, 9, api.OK},
		{string(filled(8, 0x7f)), math.MaxInt - 1, 0, 0, api.Number},
		{string(filled(8, 0x80)), math.MaxInt, 0, 0, api.Number},
		{string(filled(8, 0x81)), math.MaxInt, 0, 0, api.Number},
		{string(filled(9)), math.MaxInt, 0, 0, api.Number},
		{string(filled(9, 0)), math.MaxInt, 0, 0, api.Number},
		{string(filled(9, 1)), math.MaxInt, 0, 0, api.Number},
		{string(filled(9, 0x80)), math.MaxInt, 0, 0, api.Number},
		{string(filled(100)), math.MaxInt, 0, 0, api.Number},
		{"\x80\x80\x80\x80\x80\x80\x80\x80\x80", math.MaxInt, 0, 0, api.Number},
		{"\x80\x80\x80\x80\x80\x80\x80\x80\x80\x01", math.MaxInt, 0, 0, api.Number},
		{"\x80\x80\x80\x80\x80\x80\x80\x80\x10", 1 << 60, 1 << 60, 9, api.OK},
		{"\x81\x80\x80\x80\x80\x80\x80\x80\x10", 1 << 60, 0, 0, api.Number},
	} {
		for _, ahead := range []string{"", "\x00", "\xff", "\x80\x01", "\xac"} {
			b := []byte(ahead + c.text)
			behind := 0
			if c.kind == api.OK {
				behind = len(ahead) + c.read
			}
			takeIs(t, b, len(ahead), c.most, c.n, behind, c.kind)
		}
	}
}

// TestP401At: offsets that are none of the bytes', and those that are.
func TestP401At(t *testing.T) {
	for length := range 4 {
		b := filled(length)
		for i := range b {
			b[i] = byte(i + 1)
		}
		for _, most := range []int{math.MinInt, -1, 0, math.MaxInt} {
			for _, at := range []int{math.MinInt, math.MinInt + 1, -2, -1, length + 1, length + 2, math.MaxInt - 1, math.MaxInt} {
				takeIs(t, b, at, most, 0, 0, api.BadArg)
			}
			takeIs(t, b, length, most, 0, 0, api.Truncated)
		}
		for at := range b {
			takeIs(t, b, at, 9, at+1, at+1, api.OK)
		}
	}
	takeIs(t, nil, 0, 9, 0, 0, api.Truncated)
	takeIs(t, nil, 1, 9, 0, 0, api.BadArg)
	takeIs(t, nil, -1, 9, 0, 0, api.BadArg)
}

// TestP401Kept: what is handed in stays as it is, and what lies in its spare room is not there.
func TestP401Kept(t *testing.T) {
	room := []byte("\x05\xac\x02\xff\x01")
	was := string(room)
	takeIs(t, room[:0], 0, 9, 0, 0, api.Truncated)
	takeIs(t, room[:0], 1, 9, 0, 0, api.BadArg)
	takeIs(t, room[:2], 1, 999, 0, 0, api.Truncated)
	takeIs(t, room[:3], 1, 999, 300, 3, api.OK)
	takeIs(t, room[:3], 4, 999, 0, 0, api.BadArg)
	delta.Gate(room[:3], 0, 999)
	delta.Gate(room[:2], 0, 999)
	same(t, "what is handed in", string(room), was)
}

// told: what Take answers, by numbers without an end.
func told(b []byte, at, most int) (int, int, api.Fault) {
	if at < 0 || at > len(b) {
		return 0, 0, api.BadArg
	}
	sum := new(big.Int)
	for i, c := range b[at:] {
		group := big.NewInt(int64(c % 128))
		sum.Add(sum, group.Lsh(group, uint(7*i)))
		switch {
		case c >= 128 && i == 8:
			return 0, 0, api.Number
		case c >= 128:
		case c == 0 && i > 0, sum.Cmp(big.NewInt(int64(most))) > 0:
			return 0, 0, api.Number
		default:
			return int(sum.Int64()), at + i + 1, api.OK
		}
	}
	return 0, 0, api.Truncated
}

// TestP401Each: of few bytes each, at each offset, against what is told of them.
func TestP401Each(t *testing.T) {
	for _, text := range strings("\x00\x01\x7f\x80\x81\xff", 5) {
		b := []byte(text)
		for at := -1; at <= len(b)+1; at++ {
			for _, most := range []int{math.MinInt, -1, 0, 1, 126, 127, 128, 129, 255, 256, 16383, 16384, 1 << 21, math.MaxInt} {
				n, behind, kind := told(b, at, most)
				takeIs(t, b, at, most, n, behind, kind)
			}
		}
	}
}

// TestP401Two: each two bytes there may be.
func TestP401Two(t *testing.T) {
	for first := range 256 {
		for second := range 256 {
			b := []byte{byte(first), byte(second)}
			n, behind, kind := told(b, 0, math.MaxInt)
			takeIs(t, b, 0, math.MaxInt, n, behind, kind)
			takeIs(t, b, 0, n, n, behind, kind)
			n, behind, kind = told(b, 0, n-1)
			takeIs(t, b, 0, n-1, n, behind, kind)
		}
	}
}

// TestP401Long: about nine bytes, whatever is the last one, and what comes behind it.
func TestP401Long(t *testing.T) {
	for _, fill := range []byte{0x80, 0x81, 0xc0, 0xd5, 0xff} {
		for length := 6; length <= 11; length++ {
			for last := range 256 {
				shorter := append(bytes.Repeat([]byte{fill}, length), byte(last))
				for _, b := range [][]byte{shorter, append(bytes.Clone(shorter), 0), append(bytes.Clone(shorter), 1)} {
					for _, most := range []int{1<<56 - 1, 1 << 56, 1 << 60, 1 << 62, math.MaxInt} {
						n, behind, kind := told(b, 0, most)
						takeIs(t, b, 0, most, n, behind, kind)
					}
				}
			}
		}
	}
}

// TestP402Pair: of a gate's literals, in their order, the bytes; of others, none.
func TestP402Pair(t *testing.T) {
	for _, c := range []struct {
		lhs, a, b int
		want      string
		kind      api.Fault
	}{
		{8, 6, 3, "\x02\x03", api.OK},
		{8, 7, 7, "\x01\x00", api.OK},
		{2, 1, 1, "\x01\x00", api.OK},
		{2, 1, 0, "\x01\x01", api.OK},
		{2, 0, 0, "\x02\x00", api.OK},
		{300, 0, 0, "\xac\x02\x00", api.OK},
		{301, 300, 0, "\x01\xac\x02", api.OK},
		{1000, 500, 250, "\xf4\x03\xfa\x01", api.OK},
		{4000, 128, 0, "\xa0\x1e\x80\x01", api.OK},
		{math.MaxInt, 0, 0, "\xff\xff\xff\xff\xff\xff\xff\xff\x7f\x00", api.OK},
		{math.MaxInt, math.MaxInt - 1, 0, "\x01\xfe\xff\xff\xff\xff\xff\xff\xff\x7f", api.OK},
		{math.MaxInt, math.MaxInt - 1, math.MaxInt - 1, "\x01\x00", api.OK},
		{8, 8, 3, "", api.Order},
		{8, 9, 3, "", api.Order},
		{8, 8, 8, "", api.Order},
		{8, 3, 6, "", api.Order},
		{8, 6, 7, "", api.Order},
		{8, 6, -1, "", api.Order},
		{8, -1, -1, "", api.Order},
		{8, -2, -1, "", api.Order},
		{8, -1, -2, "", api.Order},
		{8, -1, 0, "", api.Order},
		{0, 0, 0, "", api.Order},
		{0, -1, -1, "", api.Order},
		{-1, -2, -3, "", api.Order},
		{-1, 0, 0, "", api.Order},
		{math.MaxInt, math.MaxInt, math.MaxInt, "", api.Order},
		{math.MaxInt, math.MaxInt, 0, "", api.Order},
		{math.MaxInt, 0, math.MaxInt, "", api.Order},
		{math.MaxInt, math.MinInt, math.MinInt, "", api.Order},
		{math.MaxInt, 0, math.MinInt, "", api.Order},
		{math.MaxInt, math.MinInt, 0, "", api.Order},
		{8, math.MinInt, 1, "", api.Order},
		{8, math.MinInt, math.MaxInt, "", api.Order},
		{8, -2, math.MaxInt, "", api.Order},
		{8, 6, math.MinInt, "", api.Order},
		{8, math.MaxInt, -1, "", api.Order},
		{math.MinInt, math.MaxInt, 0, "", api.Order},
		{math.MinInt, 0, 0, "", api.Order},
		{math.MinInt, math.MinInt, math.MinInt, "", api.Order},
		{math.MinInt, math.MaxInt, math.MaxInt, "", api.Order},
	} {
		pairIs(t, c.lhs, c.a, c.b, c.want, c.kind)
	}
}

// TestP402PairEach: of small literals, in whatever order, and about a byte's and two bytes' end.
func TestP402PairEach(t *testing.T) {
	list := []int{-2, -1, 0, 1, 2, 3, 4, 126, 127, 128, 129, 130, 254, 255, 256, 257, 16382, 16383, 16384, 16385}
	for _, lhs := range list {
		if lhs == 1 { // is none of a gate's
			continue
		}
		for _, a := range list {
			for _, b := range list {
				if 0 <= b && b <= a && a < lhs {
					want := binary.AppendUvarint(binary.AppendUvarint(nil, uint64(lhs-a)), uint64(a-b))
					pairIs(t, lhs, a, b, string(want), api.OK)
					continue
				}
				pairIs(t, lhs, a, b, "", api.Order)
			}
		}
	}
}

// TestP402PairNew: each answer is a list of its own; none comes beside a fault.
func TestP402PairNew(t *testing.T) {
	one, _ := delta.Pair(300, 6, 3)
	two, _ := delta.Pair(300, 6, 3)
	want := string(two)
	for i := range one {
		one[i] = 0xee
	}
	_ = append(one[:0], "0123456789012345"...)
	same(t, "another Pair", string(two), want)
	pairIs(t, 300, 6, 3, want, api.OK)
	none, _ := delta.Pair(6, 6, 3)
	same(t, "bytes beside a fault", len(none), 0)
}

// TestP402Gate: gates that are taken, and those that are not.
func TestP402Gate(t *testing.T) {
	const top = "\x80\x80\x80\x80\x80\x80\x80\x80\x10"    // 2^60
	const beyond = "\x81\x80\x80\x80\x80\x80\x80\x80\x10" // 2^60 + 1
	for _, c := range []struct {
		text      string
		lhs, a, b int
		read      int
		kind      api.Fault
	}{
		{"\x02\x03", 8, 6, 3, 2, api.OK},
		{"\x02\x03\x80", 8, 6, 3, 2, api.OK},
		{"\x01\x00", 8, 7, 7, 2, api.OK},
		{"\x01\x01", 2, 1, 0, 2, api.OK},
		{"\x01\x00", 2, 1, 1, 2, api.OK},
		{"\x02\x00", 2, 0, 0, 2, api.OK},
		{"\x08\x00", 8, 0, 0, 2, api.OK},
		{"\x02\x06", 8, 6, 0, 2, api.OK},
		{"\xac\x02\x80\x01", 428, 128, 0, 4, api.OK},
		{"\xac\x02\x00", 300, 0, 0, 3, api.OK},
		{top + "\x00", 1 << 60, 0, 0, 10, api.OK},
		{top + top, math.MaxInt, math.MaxInt - 1<<60, math.MaxInt - 1<<61, 18, api.OK},
		{top + "\x05", 1<<60 + 5, 5, 0, 10, api.OK},
		{"\x01\x00", math.MaxInt, math.MaxInt - 1, math.MaxInt - 1, 2, api.OK},
		// what isn't in order
		{"\x00\x03", 8, 0, 0, 0, api.Order},
		{"\x00\x00", 8, 0, 0, 0, api.Order},
		{"\x09\x00", 8, 0, 0, 0, api.Order},
		{"\x02\x07", 8, 0, 0, 0, api.Order},
		{"\x08\x01", 8, 0, 0, 0, api.Order},
		{"\x03\x00", 2, 0, 0, 0, api.Order},
		{"\x01\x02", 2, 0, 0, 0, api.Order},
		{top + "\x00", 1<<60 - 1, 0, 0, 0, api.Order},
		{"\x01" + top, 1 << 60, 0, 0, 0, api.Order},
		{"\x00\x00", 0, 0, 0, 0, api.Order},
		{"\x01\x00", 0, 0, 0, 0, api.Order},
		{"\x00\x00", -1, 0, 0, 0, api.Order},
		{"\x01\x00", -1, 0, 0, 0, api.Order},
		{"\x01\x00", math.MinInt, 0, 0, 0, api.Order},
		{"\x00\x00", math.MinInt, 0, 0, 0, api.Order},
		{top + top, math.MinInt, 0, 0, 0, api.Order},
		// numbers that are none, the first or the second
		{"", 8, 0, 0, 0, api.Truncated},
		{"\x02", 8, 0, 0, 0, api.Truncated},
		{"\x82", 8, 0, 0, 0, api.Truncated},
		{"\x02\x83", 8, 0, 0, 0, api.Truncated},
		{"\x82\x00\x03", 8, 0, 0, 0, api.Number},
		{"\x02\x83\x00", 8, 0, 0, 0, api.Number},
		{beyond + "\x00", math.MaxInt, 0, 0, 0, api.Number},
		{"\x01" + beyond, math.MaxInt, 0, 0, 0, api.Number},
		{string(filled(8, 0x7f)) + "\x00", math.MaxInt, 0, 0, 0, api.Number},
		{string(filled(9)), math.MaxInt, 0, 0, 0, api.Number},
		{"\x01" + string(filled(9)), math.MaxInt, 0, 0, 0, api.Number},
		{"\x82\x00", math.MinInt, 0, 0, 0, api.Number},
		// Take's fault, of the second number too, goes ahead of Order
		{"\x00", 8, 0, 0, 0, api.Truncated},
		{"\x09", 8, 0, 0, 0, api.Truncated},
		{"\x00\x80", 8, 0, 0, 0, api.Truncated},
		{"\x09\x80\x00", 8, 0, 0, 0, api.Number},
		{"\x00" + beyond, 8, 0, 0, 0, api.Number},
		{"\x01", -1, 0, 0, 0, api.Truncated},
	} {
		for _, ahead := range []string{"", "\x00", "\x80", "\x01\x01"} {
			behind := 0
			if c.kind == api.OK {
				behind = len(ahead) + c.read
			}
			gateIs(t, ahead+c.text, len(ahead), c.lhs, c.a, c.b, behind, c.kind)
		}
	}
}

// TestP402GateAt: an offset that is none is BadArg, whatever else is wrong.
func TestP402GateAt(t *testing.T) {
	for _, text := range []string{"", "\x01", "\x01\x00", "\x00\x00", "\x80", "\x80\x00"} {
		for _, lhs := range []int{math.MinInt, -1, 0, 8, math.MaxInt} {
			for _, at := range []int{math.MinInt, -1, len(text) + 1, math.MaxInt} {
				gateIs(t, text, at, lhs, 0, 0, 0, api.BadArg)
			}
			gateIs(t, text, len(text), lhs, 0, 0, 0, api.Truncated)
		}
	}
}

// TestP402GateEach: of few bytes each, of whatever literal, against what is told of their numbers.
func TestP402GateEach(t *testing.T) {
	for _, text := range strings("\x00\x01\x02\x7f\x80\x81", 5) {
		b := []byte(text)
		for at := -1; at <= len(b)+1; at++ {
			first, middle, kind := told(b, at, 1<<60)
			second, behind := 0, 0
			if kind == api.OK {
				second, behind, kind = told(b, middle, 1<<60)
			}
			for _, lhs := range []int{-1, 0, 2, 3, 4, 128, 129, 130, 256, 16512} {
				switch {
				case kind != api.OK:
					gateIs(t, text, at, lhs, 0, 0, 0, kind)
				case first == 0 || first > lhs || second > lhs-first:
					gateIs(t, text, at, lhs, 0, 0, 0, api.Order)
				default:
					gateIs(t, text, at, lhs, lhs-first, lhs-first-second, behind, api.OK)
				}
			}
		}
	}
}

// TestP403: what is put is taken as it was, at whatever offset and whatever lies behind; of fewer bytes it is not.
func TestP403(t *testing.T) {
	for _, n := range numbers() {
		b := delta.Put(n)
		for _, ahead := range []string{"", "\xff", "\x00\x80"} {
			for _, behind := range []string{"", "\x00", "\x80", "\xff\xff"} {
				all := []byte(ahead + string(b) + behind)
				takeIs(t, all, len(ahead), math.MaxInt, n, len(ahead)+len(b), api.OK)
				takeIs(t, all, len(ahead), n, n, len(ahead)+len(b), api.OK)
				takeIs(t, all, len(ahead), n-1, 0, 0, api.Number)
			}
			for fewer := range b {
				takeIs(t, []byte(ahead+string(b[:fewer])), len(ahead), math.MaxInt, 0, 0, api.Truncated)
			}
		}
	}
}

// TestP403Row: numbers that are put one behind the other are taken so.
func TestP403Row(t *testing.T) {
	var all []byte
	for _, n := range numbers() {
		all = append(all, delta.Put(n)...)
	}
	at := 0
	for _, n := range numbers() {
		got, behind, kind := delta.Take(all, at, math.MaxInt)
		same(t, "kind", kind, api.OK)
		same(t, "number", got, n)
		at = behind
	}
	same(t, "the end", at, len(all))
	takeIs(t, all, at, math.MaxInt, 0, 0, api.Truncated)
}

// TestP403Gates: so with gates, of literals whose numbers are at most 2^60.
func TestP403Gates(t *testing.T) {
	var list []int
	for _, n := range numbers() {
		if n <= 1<<60 {
			list = append(list, n)
		}
	}
	for i, lhs := range list {
		for j := i % 7; j < len(list); j += 7 {
			for k := j % 5; k < len(list); k += 5 {
				a, b := list[j], list[k]
				if lhs < 2 || b > a || a >= lhs {
					continue
				}
				bytes, kind := delta.Pair(lhs, a, b)
				same(t, "kind", kind, api.OK)
				all := "\xff" + string(bytes)
				gateIs(t, all+"\x80", 1, lhs, a, b, len(all), api.OK)
				for fewer := 1; fewer < len(all); fewer++ {
					gateIs(t, all[:fewer], 1, lhs, 0, 0, 0, api.Truncated)
				}
			}
		}
	}
}

// TestExample: the chapter's.
func TestExample(t *testing.T) {
	same(t, "Put(300)", string(delta.Put(300)), "\xAC\x02")
}
