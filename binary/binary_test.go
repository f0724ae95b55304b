package binary_test

import (
	"fmt"
	"math"
	"reflect"
	"slices"
	"strings"
	"testing"

	"astrarium/api"
	"astrarium/ascii"
	"astrarium/binary"
	"astrarium/net"
	"astrarium/topo"
)

func same[T comparable](t *testing.T, what string, got, want T) {
	t.Helper()
	if got != want {
		t.Errorf("%s: %v, not %v", what, got, want)
	}
}

// whole: a netlist that is right, numbered, and has some of everything.
func whole() api.Net {
	return api.Net{
		Vars:        14,
		Inputs:      []int{1, 2},
		Latches:     []api.Latch{{Var: 3, Next: 29}, {Var: 4, Next: 5, Init: 1}, {Var: 5, Next: 27, Init: api.Any}},
		Outputs:     []int{28, 1},
		Bads:        []int{6, 7, 0},
		Constraints: []int{8},
		Mems: []api.Memory{
			{Addr: 2, Word: 3, Any: true,
				Reads:  []api.Read{{Var: 6, Addr: []int{27, 3}}, {Var: 9, Addr: []int{6, 0}}},
				Writes: []api.Write{{On: 26, Addr: []int{6, 9}, Data: []int{10, 11, 12}}, {On: 1, Addr: []int{0, 1}, Data: []int{1, 0, 20}}}},
			{Addr: 1, Word: 1, Reads: []api.Read{{Var: 12, Addr: []int{5}}}},
		},
		Ands: []api.And{{Var: 13, A: 11, B: 4}, {Var: 14, A: 27, B: 27}},
	}
}

// wholeBytes: of the whole.
const wholeBytes = "aigm 14 2 3 2 2 3 1 2\n" +
	"29 0\n5 1\n27 10\n" +
	"28\n1\n" +
	"6\n7\n0\n" +
	"8\n" +
	"m 2 3 1 2 2\nr 27 3\nr 6 0\nw 26 6 9 10 11 12\nw 1 0 1 1 0 20\n" +
	"m 1 1 0 1 0\nr 5\n" +
	"\x0f\x07\x01\x00"

// inputs: the variables of so many inputs.
func inputs(count int) []int {
	list := make([]int, count)
	for i := range list {
		list[i] = i + 1
	}
	return list
}

// told: netlists that are right and numbered, by their bytes.
func told() map[string]api.Net {
	return map[string]api.Net{
		wholeBytes:                                            whole(),
		"aig 2000 2000 0 0 0 0 0\n":                           {Vars: 2000, Inputs: inputs(2000)},
		"aig 0 0 0 0 0 0 0\n":                                 {},
		"aig 0 0 0 0 0 1 0\n1\n":                              {Bads: []int{1}},
		"aig 1 1 0 0 0 1 0\n2\n":                              {Vars: 1, Inputs: []int{1}, Bads: []int{2}},
		"aig 1 0 1 0 0 0 0\n3 0\n":                            {Vars: 1, Latches: []api.Latch{{Var: 1, Next: 3}}},
		"aig 1 0 1 0 0 0 0\n0 1\n":                            {Vars: 1, Latches: []api.Latch{{Var: 1, Init: 1}}},
		"aig 2 1 1 0 0 0 0\n1 4\n":                            {Vars: 2, Inputs: []int{1}, Latches: []api.Latch{{Var: 2, Next: 1, Init: api.Any}}},
		"aig 0 0 0 1 0 1 1\n0\n1\n0\n":                        {Outputs: []int{0}, Bads: []int{1}, Constraints: []int{0}},
		"aig 1 0 0 0 1 0 0\n\x01\x00":                         {Vars: 1, Ands: []api.And{{Var: 1, A: 1, B: 1}}},
		"aig 1 0 0 0 1 0 0\n\x02\x00":                         {Vars: 1, Ands: []api.And{{Var: 1}}},
		"aig 1 0 0 0 1 0 0\n\x01\x01":                         {Vars: 1, Ands: []api.And{{Var: 1, A: 1}}},
		"aig 2 0 0 0 2 0 0\n\x02\x00\x01\x03":                 {Vars: 2, Ands: []api.And{{Var: 1}, {Var: 2, A: 3}}},
		"aig 3 2 0 0 1 1 0\n6\n\x02\x02":                      {Vars: 3, Inputs: inputs(2), Bads: []int{6}, Ands: []api.And{{Var: 3, A: 4, B: 2}}},
		"aig 65 64 0 0 1 0 0\n\x02\x80\x01":                   {Vars: 65, Inputs: inputs(64), Ands: []api.And{{Var: 65, A: 128, B: 0}}},
		"aig 65 64 0 0 1 0 0\n\x7f\x03":                       {Vars: 65, Inputs: inputs(64), Ands: []api.And{{Var: 65, A: 3, B: 0}}},
		"aig 65 64 0 0 1 0 0\n\x82\x01\x00":                   {Vars: 65, Inputs: inputs(64), Ands: []api.And{{Var: 65, A: 0, B: 0}}},
		"aig 2000 1999 0 0 1 0 0\n\xa0\x1f\x00":               {Vars: 2000, Inputs: inputs(1999), Ands: []api.And{{Var: 2000, A: 0, B: 0}}},
		"aig 2000 1999 0 0 1 0 0\n\x01\x9f\x1f":               {Vars: 2000, Inputs: inputs(1999), Ands: []api.And{{Var: 2000, A: 3999, B: 0}}},
		"aigm 0 0 0 0 0 0 0 1\nm 1 1 0 0 0\n":                 {Mems: []api.Memory{{Addr: 1, Word: 1}}},
		"aigm 0 0 0 0 0 0 0 2\nm 62 64 1 0 0\nm 1 64 0 0 0\n": {Mems: []api.Memory{{Addr: 62, Word: 64, Any: true}, {Addr: 1, Word: 64}}},
		"aigm 2 1 0 0 0 0 0 1\nm 1 1 0 1 1\nr 2\nw 1 2 3\n": {Vars: 2, Inputs: []int{1}, Mems: []api.Memory{{Addr: 1, Word: 1,
			Reads: []api.Read{{Var: 2, Addr: []int{2}}}, Writes: []api.Write{{On: 1, Addr: []int{2}, Data: []int{3}}}}}},
		"aigm 5 0 1 0 0 0 0 2\n2 0\nm 1 1 0 2 0\nr 2\nr 9\nm 1 2 0 1 0\nr 0\n": {Vars: 5, Latches: []api.Latch{{Var: 1, Next: 2}}, Mems: []api.Memory{
			{Addr: 1, Word: 1, Reads: []api.Read{{Var: 2, Addr: []int{2}}, {Var: 3, Addr: []int{9}}}}, {Addr: 1, Word: 2, Reads: []api.Read{{Var: 4, Addr: []int{0}}}}}},
	}
}

// TestP801Numbered: definitions that are 1, 2, 3 and so on; ands whose literals are in order.
func TestP801Numbered(t *testing.T) {
	for _, n := range told() {
		same(t, fmt.Sprint("Numbered of ", n), binary.Numbered(n), true)
	}
	for what, spoil := range map[string]func(n *api.Net){
		"inputs the other way round":  func(n *api.Net) { n.Inputs = []int{2, 1} },
		"latches the other way round": func(n *api.Net) { n.Latches[0].Var, n.Latches[1].Var = 4, 3 },
		"a latch ahead of an input":   func(n *api.Net) { n.Inputs[1], n.Latches[0].Var = 3, 2 },
		"ports the other way round":   func(n *api.Net) { n.Mems[0].Reads[0].Var, n.Mems[0].Reads[1].Var = 9, 6 },
		"a memory ahead of another":   func(n *api.Net) { n.Mems[0].Reads[0].Var, n.Mems[0].Reads[1].Var, n.Mems[1].Reads[0].Var = 7, 10, 6 },
		"an and ahead of a port":      func(n *api.Net) { n.Mems[1].Reads[0].Var, n.Ands[0].Var = 13, 12 },
		"ands the other way round":    func(n *api.Net) { n.Ands[0].Var, n.Ands[1].Var = 14, 13 },
		"A its own":                   func(n *api.Net) { n.Ands[0].A = 26 },
		"A its own, negated":          func(n *api.Net) { n.Ands[0].A = 27 },
		"A of an and behind":          func(n *api.Net) { n.Ands[0].A = 28 },
		"A below B":                   func(n *api.Net) { n.Ands[0].A = 3 },
		"A just below B":              func(n *api.Net) { n.Ands[1].A = 26 },
		"the first is another":        func(n *api.Net) { n.Inputs[0] = 0 },
		"the last is another":         func(n *api.Net) { n.Ands[1].Var = 15 },
		"an input twice":              func(n *api.Net) { n.Inputs[1] = 1 },
		"one more variable":           func(n *api.Net) { n.Vars = 15 },
		"one variable less":           func(n *api.Net) { n.Vars = 13 },
		"no variables":                func(n *api.Net) { n.Vars = 0 },
		"fewer than no variables":     func(n *api.Net) { n.Vars = -14 },
		"as many as can be":           func(n *api.Net) { n.Vars = math.MaxInt },
		"as few as can be":            func(n *api.Net) { n.Vars = math.MinInt },
		"an input less":               func(n *api.Net) { n.Inputs = n.Inputs[:1] },
		"an and less":                 func(n *api.Net) { n.Ands = n.Ands[:1] },
		"a wider word":                func(n *api.Net) { n.Mems[0].Word = 4 },
	} {
		n := whole()
		spoil(&n)
		same(t, what, binary.Numbered(n), false)
	}
	n := whole()
	n.Ands[0].A, n.Ands[0].B = 25, 25
	same(t, "A just below 2 Var, and B as much", binary.Numbered(n), true)
	n.Bads[0], n.Latches[0].Init, n.Mems[0].Reads[0].Addr[0] = 999, 7, -1
	same(t, "what else is wrong", binary.Numbered(n), true)
	n.Mems[0].Reads[0].Addr[0] = 12
	same(t, "a circle", binary.Numbered(n), true)
}

// TestP801Print: the bytes of netlists that are right and numbered.
func TestP801Print(t *testing.T) {
	for want, n := range told() {
		got, kind := binary.Print(n)
		same(t, fmt.Sprintf("the fault of %q", want), kind, api.OK)
		same(t, "the bytes", string(got), want)
	}
}

// TestP801Fault: topo's Check's, then Order, and no bytes.
func TestP801Fault(t *testing.T) {
	spoils := map[api.Fault]func(n *api.Net){
		api.Limit:    func(n *api.Net) { n.Vars = api.MaxVars + 1 },
		api.Width:    func(n *api.Net) { n.Mems[0].Reads[1].Addr = []int{0} },
		api.BadArg:   func(n *api.Net) { n.Latches[2].Init = 3 },
		api.Dangling: func(n *api.Net) { n.Bads[0] = 30 },
		api.Twice:    func(n *api.Net) { n.Inputs[0] = 2 },
		api.Missing:  func(n *api.Net) { n.Ands = n.Ands[:1] },
		api.Cycle:    func(n *api.Net) { n.Mems[0].Reads[0].Addr[0] = 12 },
		api.Order:    func(n *api.Net) {},
	}
	for want, spoil := range spoils {
		for _, order := range []func(n *api.Net){
			func(n *api.Net) {},
			func(n *api.Net) { n.Latches[0], n.Latches[1] = n.Latches[1], n.Latches[0] },
			func(n *api.Net) { n.Ands[0].A, n.Ands[0].B = 4, 11 },
		} {
			n := whole()
			order(&n)
			spoil(&n)
			if want == api.Order && binary.Numbered(n) {
				continue
			}
			got, kind := binary.Print(n)
			same(t, "Print", kind, want)
			same(t, "how many bytes", len(got), 0)
		}
	}
}

// TestP802Parse: the netlist of bytes, with and without c.
func TestP802Parse(t *testing.T) {
	for text, want := range told() {
		for _, behind := range []string{"", "c\n", "c\nany", "c\n\n", "c\n\x00\xffc\n", "c\naig 0 0 0 0 0 0 0\n"} {
			got, at, kind := binary.Parse([]byte(text + behind))
			same(t, fmt.Sprintf("the fault of %q", text), kind, api.OK)
			same(t, fmt.Sprintf("the offset of %q", text), at, 0)
			if !net.Same(got, want) {
				t.Errorf("%q: %v, not %v", text, got, want)
			}
		}
	}
}

// refused: bytes, in which ^ stands ahead of what is wrong, are refused for that.
func refused(t *testing.T, kind api.Fault, texts ...string) {
	t.Helper()
	for _, text := range texts {
		at := strings.IndexByte(text, '^')
		n, gotAt, gotKind := binary.Parse([]byte(strings.Replace(text, "^", "", 1)))
		if gotKind != kind || gotAt != at {
			t.Errorf("%q: %d at %d, not %d at %d", text, gotKind, gotAt, kind, at)
		}
		if !reflect.DeepEqual(n, api.Net{}) {
			t.Errorf("%q: something of what is refused: %v", text, n)
		}
	}
}

// TestP802Begin: the first word, and the space behind it.
func TestP802Begin(t *testing.T) {
	refused(t, api.Header,
		"^", "^a", "^ai", "^aig", "^aigm", "^aig\n", "^aigm\n", "^aign 0 0 0 0 0 0 0 1\n", "^ aig 0 0 0 0 0 0 0\n", "^aag 0 0 0 0 0 0 0\n", "^aagm 0 0 0 0 0 0 0 1\nm 1 1 0 0 0\n",
		"^AIG 0 0 0 0 0 0 0\n", "^aig0 0 0 0 0 0 0\n", "^aig\t0 0 0 0 0 0 0\n", "^aigmm 0 0 0 0 0 0 0 1\n", "^axg", "^\xef\xbb\xbfaig 0 0 0 0 0 0 0\n", "^c\n", "^\n")
}

// TestP802Counts: M is not what there is; told when the last memory, or of none the last constraint, is read.
func TestP802Counts(t *testing.T) {
	refused(t, api.Header,
		"^aig 1 0 0 0 0 0 0\n", "^aig 0 1 0 0 0 0 0\n", "^aig 2 1 0 0 0 0 0\n", "^aig 0 0 1 0 0 0 0\n0 0\n", "^aig 0 0 1 0 0 0 0\n0 2\n", "^aig 2 0 1 0 0 0 0\n0 0\n", "^aig 0 0 0 0 1 0 0\n\x01\x00", "^aig 2 0 0 0 1 0 0\n\x01\x00",
		"^aig 2000 2000 2000 0 2000 0 0\n"+strings.Repeat("0 0\n", 2000), "^aig 1 0 0 1 0 1 1\n1\n1\n1\n", "^aig 1 0 0 0 0 0 1\n1\nx", "^aig 1 0 0 0 0 0 0\nc\n", "^aig 1 0 0 0 0 0 0\nx", "^aig 4 2 0 0 1 0 0\n", "^aig 4 2 0 0 1 0 0\n\xff\xff\x00", "^aig 2 2 0 0 1 0 0\n\x00\x00",
		"^aigm 1 0 0 0 0 0 0 1\nm 1 1 0 0 0\n", "^aigm 2 0 0 0 0 0 0 1\nm 1 1 0 1 0\nr 0\n", "^aigm 1 0 0 0 1 0 0 1\nm 1 1 0 1 0\nr 0\n\x01\x00", "^aigm 3 0 0 0 0 0 0 1\nm 1 2 0 1 1\nr 0\nw 0 0 0 0\nx", "^aigm 2 0 0 0 0 0 0 2\nm 1 1 0 1 0\nr 0\nm 1 1 0 0 0\n",
		"^aigm 3 1 1 0 0 0 0 1\n0 0\nm 1 3 1 0 0\n", "^aigm 0 1 0 0 0 0 0 1\nm 1 1 0 0 0\n", "^aigm 1 1 1 0 0 0 0 1\n0 0\nm 1 1 0 0 1\nw 0 0 0\n", "^aigm 5 1 1 0 1 0 0 1\n0 0\nm 1 1 0 1 0\nr 0\n")
	refused(t, api.Truncated, "aig 9 0 1 0 0 0 0\n^", "aig 9 0 0 0 0 0 1\n^", "aig 9 0 0 0 0 0 1\n1^", "aigm 9 0 0 0 0 0 0 1\n^", "aigm 9 0 0 0 0 0 0 1\nm 1 1 0 0 1\n^", "aigm 9 0 0 0 0 0 0 2\nm 1 1 0 1 0\nr 0\n^", "aigm 9 0 0 0 0 0 0 1\nm 1 1 0 0 1\nw 0 0 0^")
	refused(t, api.Dangling, "aig 1 0 0 1 0 0 0\n^4\n", "aig 0 1 0 0 0 1 0\n^2\n", "aigm 9 0 0 0 0 0 0 1\nm 1 1 0 1 0\nr ^20\n")
	refused(t, api.Illegal, "aig 9 0 1 0 0 0 0\n0 ^4\n")
}

// TestP802Data: data that would go beyond M, at the line of m, as soon as it is read.
func TestP802Data(t *testing.T) {
	refused(t, api.Limit,
		"aigm 0 0 0 0 0 0 0 1\n^m 1 1 0 1 0\n", "aigm 1 0 0 0 0 0 0 1\n^m 1 2 0 1 0\nr 0\n", "aigm 1 0 0 0 0 0 0 1\n^m 1 1 0 2 0\nx", "aigm 2 1 1 0 0 0 0 1\n0 0\n^m 1 1 0 1 4\n", "aigm 1 2 0 0 0 0 0 1\n^m 1 1 0 1 0\nr 9\n",
		"aigm 255 0 0 0 0 0 0 1\n^m 62 64 1 4 0\n", "aigm 2 0 0 0 0 0 0 2\nm 1 1 0 1 1\nr 0\nw 0 0 0\n^m 1 1 0 2 0\n", "aigm 4 1 1 0 0 0 0 3\n0 0\nm 1 1 0 1 0\nr 0\nm 1 9 0 0 1\nw"+strings.Repeat(" 0", 11)+"\n^m 1 2 1 1 0\n",
		"aigm 2000 2000 0 0 0 0 0 1\n^m 1 1 0 1 0\n", "aigm 0 2000 2000 0 0 0 0 1\n"+strings.Repeat("0 0\n", 2000)+"^m 1 1 0 1 0\n", "aigm 1 0 0 1 0 0 0 1\n0\n^m 1 2 0 1 0\nr 0\n")
	refused(t, api.Truncated, "aigm 0 0 0 0 0 0 0 1\nm 1 1 0 1 0^", "aigm 0 0 0 0 0 0 0 1\nm 1 1 0 1^", "aigm 1 0 0 0 0 0 0 1\nm 1 1 0 1 0\n^", "aigm 256 0 0 0 0 0 0 1\nm 62 64 1 4 0\n^", "aigm 0 1 0 0 0 0 0 1\nm 1 1 0 0 1\n^", "aigm 0 1 0 0 0 0 0 2\nm 1 1 0 0 0\n^")
	refused(t, api.Syntax, "aigm 0 0 0 0 0 0 0 1\nm 1 1 0 1 0^ \n", "aigm 0 0 0 0 0 0 0 1\nm 1 1 0 1 ^x\n")
	refused(t, api.Limit, "aigm 0 0 0 0 0 0 0 1\nm 1 1 0 1 ^5\n", "aigm 0 0 0 0 0 0 0 1\nm 1 1 0 ^5 0\n")
	refused(t, api.Number, "aigm 0 0 0 0 0 0 0 1\nm 1 1 ^2 1 0\n")
}

// TestP802Gates: delta's Gate's faults, at the and's first byte.
func TestP802Gates(t *testing.T) {
	one, two := "aig 3 2 0 0 1 0 0\n", "aig 4 2 0 0 2 0 0\n\x02\x02"
	refused(t, api.Truncated,
		one+"^", one+"^\x02", one+"^\x82", one+"^\x00", one+"^\xff\xff\xff\xff\xff\xff\xff\xff", one+"^\x02\xff", two+"^", two+"^\x01", two+"^\x7f", "aig 1 0 0 0 1 0 0\n^", "aigm 2 0 0 0 1 0 0 1\nm 1 1 0 1 0\nr 0\n^")
	refused(t, api.Number,
		one+"^\xff\xff\xff\xff\xff\xff\xff\xff\xff", one+"^\xff\xff\xff\xff\xff\xff\xff\xff\xff\x01\x00", one+"^\x82\x00\x02", one+"^\x80\x00\x02", one+"^\x02\x82\x00", one+"^\x00\x80\x00", one+"^\x7f\xff\xff\xff\xff\xff\xff\xff\xff\xff",
		one+"^\xff\xff\xff\xff\xff\xff\xff\xff\x7f\x00", one+"^\x02\x81\x80\x80\x80\x80\x80\x80\x80\x10", two+"^\x82\x00", two+"^\x81\x00\x00", one+"^\x81\x80\x80\x80\x80\x80\x80\x80\x10\x00")
	refused(t, api.Order,
		one+"^\x00\x02", one+"^\x07\x00", one+"^\x80\x01\x00", one+"^\x02\x05", one+"^\x06\x01", one+"^\x02\x80\x01", one+"^\x80\x80\x80\x80\x80\x80\x80\x80\x10\x00", one+"^\x00\x00", two+"^\x00\x00", two+"^\x09\x00", two+"^\x08\x01", two+"^\x01\x08", "aig 1 0 0 0 1 0 0\n^\x00\x00",
		"aig 1 0 0 0 1 0 0\n^\x03\x00", "aigm 2 0 0 0 1 0 0 1\nm 1 1 0 1 0\nr 0\n^\x05\x00", one+"^c\nany", one+"^\n\x00")
}

// TestP802Behind: what the whole tells is told behind all ands' bytes.
func TestP802Behind(t *testing.T) {
	refused(t, api.Trailing,
		"aig 0 0 0 0 0 0 0\n^c", "aig 0 0 0 0 0 0 0\n^\n", "aig 0 0 0 0 0 0 0\n^ c\n", "aig 0 0 0 0 0 0 0\n^c \n", "aig 0 0 0 0 0 0 0\n^c\r\n", "aig 0 0 0 0 0 0 0\n^cc\n", "aig 0 0 0 0 0 0 0\n^C\n", "aig 0 0 0 0 0 0 0\n^0\n", "aig 0 0 0 0 0 0 0\n^\nc\n",
		wholeBytes+"^\x00", wholeBytes+"^\n", wholeBytes+"^\nc\n", wholeBytes+"^c", wholeBytes+"^"+wholeBytes, "aig 1 1 0 0 0 0 0\n^2\n", "aig 1 0 0 0 1 0 0\n\x01\x00^\x01\x00", "aig 1 0 0 0 1 0 0\n\x01\x00^x", "aigm 1 0 0 0 0 0 0 1\nm 1 1 0 1 0\nr 2\n^x", "aig 0 0 0 0 0 0 0\n^m 1 1 0 0 0\n")
	refused(t, api.Cycle,
		"aigm 1 0 0 0 0 0 0 1\nm 1 1 0 1 0\nr 2\n^", "aigm 1 0 0 0 0 0 0 1\nm 1 1 0 1 0\nr 3\n^c\n", "aigm 2 0 0 0 0 0 0 1\nm 1 1 0 2 0\nr 4\nr 3\n^c\nany", "aigm 2 0 0 0 1 0 0 1\nm 1 1 0 1 0\nr 4\n\x02\x02^", "aigm 2 0 0 0 1 0 0 1\nm 1 1 0 1 0\nr 5\n\x01\x01^c\n",
		"aigm 3 0 0 0 0 0 0 2\nm 1 1 0 1 0\nr 6\nm 1 2 0 1 0\nr 2\n^")
}

// TestP802Lines: chapter 7's faults, of the lines that are there.
func TestP802Lines(t *testing.T) {
	memory := "aigm 3 1 0 0 0 0 0 1\n"
	refused(t, api.Truncated,
		"aig ^", "aigm ^", "aig 0^", "aig 0 ^", "aig 0 0 0 0 0 0 ^", "aig 0 0 0 0 0 0 0^", "aigm 0 0 0 0 0 0 0^", "aigm 0 0 0 0 0 0 0 ^", "aigm 0 0 0 0 0 0 0 1^", "aigm 0 0 0 0 0 0 0 1\n^",
		"aig 1 0 1 0 0 0 0\n^", "aig 1 0 1 0 0 0 0\n2^", "aig 1 0 1 0 0 0 0\n2 ^", "aig 1 0 1 0 0 0 0\n2 2^", "aig 0 0 0 1 0 0 0\n^", "aig 0 0 0 0 0 1 0\n^", "aig 0 0 0 0 0 0 1\n1^",
		memory+"m^", memory+"m 1 2 0 1 1\n^", memory+"m 1 2 0 1 1\nr^", memory+"m 1 2 0 1 1\nr ^", memory+"m 1 2 0 1 1\nr 2^", memory+"m 1 2 0 1 1\nr 2\nw 1 2 3^")
	refused(t, api.Syntax,
		"aig ^ 0 0 0 0 0 0 0\n", "aig ^-1 0 0 0 0 0 0\n", "aig 0 0 0 0 0 0^\n", "aig 0 0 0 0 0 0 0^ \n", "aig 0 0 0 0 0 0 0^ 0\n", "aig 0 0 0 0 0 0 0^\r\n", "aigm 0 0 0 0 0 0 0^\n", "aigm 0 0 0 0 0 0 0 1^ 1\n",
		"aig 1 0 1 0 0 0 0\n2 2^ 2\n", "aig 1 0 1 0 0 0 0\n2^\n", "aig 1 0 1 0 0 0 0\n^ 2 2\n", "aig 1 0 1 0 0 0 0\n2 ^x\n", "aig 0 0 0 1 0 0 0\n1^ 1\n", "aig 0 0 0 0 0 1 0\n^b\n",
		memory+"^r 2\n", memory+"m^1 2 0 1 1\n", memory+"m 1 2 0 1 1\n^w 1 2 3 4\n", memory+"m 1 2 0 1 1\nr^\n", memory+"m 1 2 0 1 1\nr 2^ 2\n", memory+"m 1 2 0 1 1\nr 4^ 2\n", memory+"m 1 2 0 1 1\nr 2\n^r 2\n", memory+"m 1 2 0 1 1\nr 2\nw 1 2 3^\n", memory+"m 1 2 0 1 1\nr 2\nw 1 2 3 4^ 4\n")
	refused(t, api.Number,
		"aig ^00", "aig ^1099511627777", "aig 0 0 0 0 0 0 ^01\n", "aig 1 0 1 0 0 0 0\n^02 2\n", "aig 1 0 1 0 0 0 0\n2 ^02\n", "aig 0 0 0 1 0 0 0\n^00\n", memory+"m 1 1 ^2 1 1\n", memory+"m 1 1 ^01 1 1\n", memory+"m 1 2 0 1 1\nr ^02\n", memory+"m 1 2 0 1 1\nr 2\nw 1 2 ^03 4\n")
	refused(t, api.Limit,
		"aig ^2001", "aig 0 ^2001 0 0 0 0 0\n", "aig 0 0 ^2001 0 0 0 0\n", "aig 0 0 0 0 ^2001 0 0\n", "aig 0 0 0 1001 0 0 ^0\n", "aig 0 0 0 500 0 500 ^1\n", "aigm 0 0 0 0 0 0 0 ^0\n", "aigm 0 0 0 0 0 0 0 ^5\n", memory+"m 1 1 0 ^5 0\n", memory+"m 1 1 0 0 ^5\n")
	refused(t, api.Width, memory+"m ^0 1 0 0 0\n", memory+"m ^63 1 0 0 0\n", memory+"m 1 ^0 0 0 0\n", memory+"m 62 ^65 0 1 0\n")
	refused(t, api.Dangling,
		"aig 1 0 1 0 0 0 0\n^4 0\n", "aig 0 0 0 1 0 0 0\n^2\n", "aig 0 0 0 0 0 1 0\n^2\n", "aig 0 0 0 0 0 0 1\n^3\n", memory+"m 1 2 0 1 1\nr ^8\n", memory+"m 1 2 0 1 1\nr 7\nw ^8 7 7 7\n", memory+"m 1 2 0 1 1\nr 7\nw 7 ^8 7 7\n", memory+"m 1 2 0 1 1\nr 7\nw 7 7 7 ^8\n")
	refused(t, api.Illegal,
		"aig 1 0 1 0 0 0 0\n2 ^3\n", "aig 1 0 1 0 0 0 0\n2 ^4\n", "aig 2 1 1 0 0 0 0\n2 ^2\n", "aig 2 0 2 0 0 0 0\n2 2\n4 ^2\n", "aig 1 0 1 0 0 0 0\n2 ^1099511627776\n")
}

// TestP802First: what is read first is told, not what is worse behind it.
func TestP802First(t *testing.T) {
	refused(t, api.Limit, "aig ^2001 2001 01 x", "aigm 1 0 0 0 1 0 0 2\n^m 1 2 0 1 0\nr 9\nm 63 65 2 5 5\n\x00")
	refused(t, api.Illegal, "aig 1 0 1 0 1 0 0\n2 ^9\n\x00")
	refused(t, api.Width, "aigm 0 0 0 0 0 0 0 1\nm ^63 65 2 5 5\n")
	refused(t, api.Order, "aigm 2 0 0 0 1 0 0 1\nm 1 1 0 1 0\nr 2\n^\x00\x00x")
	refused(t, api.Trailing, "aigm 2 0 0 0 1 0 0 1\nm 1 1 0 1 0\nr 2\n\x01\x00^x")
	refused(t, api.Dangling, "aig 0 0 0 1 0 0 0\n^2x")
}

// TestP802Prefixes: of bytes that end too early the same is told as by the test's own reader.
func TestP802Prefixes(t *testing.T) {
	for text := range told() {
		for end := range len(text) {
			agree(t, text[:end])
		}
	}
}

// TestP803Laws: there and back all is as it was, of many netlists.
func TestP803Laws(t *testing.T) {
	c := chance(7)
	met := map[bool]int{}
	for round := range 4000 {
		n := drawn(&c)
		what := fmt.Sprint("round ", round, ": ", n)
		same(t, what, binary.Numbered(n), true)
		printed, kind := binary.Print(n)
		same(t, what, kind, topo.Check(n))
		met[kind == api.OK]++
		if kind != api.OK {
			same(t, what, len(printed), 0)
			continue
		}
		got, at, kind := binary.Parse(printed)
		same(t, what, kind, api.OK)
		same(t, what, at, 0)
		same(t, what, net.Same(got, n), true)
		again, _ := binary.Print(got)
		same(t, what, string(again), string(printed))
		text, _ := ascii.Print(n)
		byText, _, _ := ascii.Parse(text)
		same(t, what, net.Same(got, byText), true)
	}
	if met[true] < 500 || met[false] < 500 {
		t.Errorf("too few of a kind: %v", met)
	}
}

// chance: numbers, one after the other, always the same ones.
type chance uint64

func (c *chance) below(most int) int {
	*c = *c*6364136223846793005 + 1442695040888963407
	return int(uint64(*c>>33) % uint64(most))
}

// drawn: a netlist that is sound and numbered; many are right.
func drawn(c *chance) api.Net {
	var n api.Net
	define := func(count int) int {
		n.Vars += count
		return n.Vars - count + 1
	}
	for range c.below(4) + c.below(8)/7*c.below(200) {
		n.Inputs = append(n.Inputs, define(1))
	}
	for range c.below(4) {
		n.Latches = append(n.Latches, api.Latch{Var: define(1), Init: c.below(3)})
	}
	for range c.below(4) {
		m := api.Memory{Addr: 1 + c.below(3), Word: 1 + c.below(3), Any: c.below(2) == 0}
		for range c.below(3) {
			m.Reads = append(m.Reads, api.Read{Var: define(m.Word)})
		}
		m.Writes = make([]api.Write, c.below(3))
		n.Mems = append(n.Mems, m)
	}
	for range c.below(6) + c.below(8)/7*c.below(200) {
		v := define(1)
		a := c.below(2 * v)
		n.Ands = append(n.Ands, api.And{Var: v, A: a, B: c.below(a + 1)})
	}
	literals := func(count int) []int {
		list := make([]int, count)
		for i := range list {
			if list[i] = c.below(2*n.Vars + 2); c.below(2) == 0 {
				list[i] = c.below(2)
			}
		}
		return list
	}
	for i := range n.Latches {
		n.Latches[i].Next = literals(1)[0]
	}
	n.Outputs, n.Bads, n.Constraints = literals(c.below(3)), literals(c.below(3)), literals(c.below(3))
	for _, m := range n.Mems {
		for i := range m.Reads {
			m.Reads[i].Addr = literals(m.Addr)
		}
		for i := range m.Writes {
			m.Writes[i] = api.Write{On: literals(1)[0], Addr: literals(m.Addr), Data: literals(m.Word)}
		}
	}
	return n
}

// wrong: why bytes are refused, thrown by the reader of this test.
type wrong struct {
	kind api.Fault
	at   int
}

// words: the test's own reader of bytes, by the chapters' words; it throws what is wrong.
type words struct {
	text    string
	at      int
	vars    int
	defined int
}

func (w *words) letter(s string) {
	for _, c := range []byte(s) {
		if w.at == len(w.text) {
			panic(wrong{api.Truncated, w.at})
		}
		if w.text[w.at] != c {
			panic(wrong{api.Syntax, w.at})
		}
		w.at++
	}
}

// number: the digits that come; of one that is not right kind is told, behind the faults of the digits.
func (w *words) number(right func(n int) bool, kind api.Fault) int {
	begin := w.at
	for w.at < len(w.text) && strings.Contains("0123456789", w.text[w.at:w.at+1]) {
		w.at++
	}
	digits := w.text[begin:w.at]
	switch {
	case begin == len(w.text):
		panic(wrong{api.Truncated, begin})
	case digits == "":
		panic(wrong{api.Syntax, begin})
	case len(digits) > 1 && digits[0] == '0', len(digits) > 13, len(digits) == 13 && digits > "1099511627776":
		panic(wrong{api.Number, begin})
	}
	var n int
	fmt.Sscan(digits, &n)
	if !right(n) {
		panic(wrong{kind, begin})
	}
	return n
}

func (w *words) upTo(least, most int, kind api.Fault) int {
	return w.number(func(n int) bool { return least <= n && n <= most }, kind)
}

func (w *words) literal() int {
	return w.upTo(0, 2*w.vars+1, api.Dangling)
}

func (w *words) spaced(count int) []int {
	var list []int
	for range count {
		w.letter(" ")
		list = append(list, w.literal())
	}
	return list
}

// next: so many variables are defined; the first of them.
func (w *words) next(count int) int {
	w.defined += count
	return w.defined - count + 1
}

// group: a number in groups of seven bits; what is wrong with it is told at begin.
func (w *words) group(begin int) int {
	n := 0
	for i := range 9 {
		if w.at == len(w.text) {
			panic(wrong{api.Truncated, begin})
		}
		b := int(w.text[w.at])
		w.at++
		n += b % 128 << (7 * i)
		if b < 128 {
			if b == 0 && i > 0 || n > 1<<60 {
				panic(wrong{api.Number, begin})
			}
			return n
		}
	}
	panic(wrong{api.Number, begin})
}

// reckon: what Parse must answer.
func reckon(text string) (n api.Net, at int, kind api.Fault) {
	defer func() {
		if thrown := recover(); thrown != nil {
			w := thrown.(wrong)
			n, at, kind = api.Net{}, w.at, w.kind
		}
	}()
	w := &words{text: text}
	mems := strings.HasPrefix(text, "aigm ")
	if !mems && !strings.HasPrefix(text, "aig ") {
		panic(wrong{api.Header, 0})
	}
	w.at = strings.IndexByte(text, ' ')
	var head [8]int
	for i, most := range []int{api.MaxVars, api.MaxVars, api.MaxVars, math.MaxInt, api.MaxVars, math.MaxInt, 0, api.MaxMems} {
		least := 0
		if i == 6 {
			most = api.MaxLits - head[3] - head[5]
		}
		if i == 7 {
			least = 1
		}
		if i < 7 || mems {
			w.letter(" ")
			head[i] = w.upTo(least, most, api.Limit)
		}
	}
	w.letter("\n")
	n.Vars, w.vars = head[0], head[0]
	w.netlist(&n, head)
	if rest := text[w.at:]; rest != "" && !strings.HasPrefix(rest, "c\n") {
		panic(wrong{api.Trailing, w.at})
	}
	if circle(n) {
		panic(wrong{api.Cycle, w.at})
	}
	return n, 0, api.OK
}

// netlist: all behind the first line.
func (w *words) netlist(n *api.Net, head [8]int) {
	for range head[1] {
		n.Inputs = append(n.Inputs, w.next(1))
	}
	for range head[2] {
		l := api.Latch{Var: w.next(1), Next: w.literal()}
		w.letter(" ")
		l.Init = w.number(func(n int) bool { return n == 0 || n == 1 || n == 2*l.Var }, api.Illegal)
		l.Init = min(l.Init, api.Any)
		n.Latches = append(n.Latches, l)
		w.letter("\n")
	}
	for i, list := range []*[]int{&n.Outputs, &n.Bads, &n.Constraints} {
		for range []int{head[3], head[5], head[6]}[i] {
			*list = append(*list, w.literal())
			w.letter("\n")
		}
	}
	for range head[7] {
		n.Mems = append(n.Mems, w.memory())
	}
	if w.defined+head[4] != w.vars {
		panic(wrong{api.Header, 0})
	}
	for range head[4] {
		begin := w.at
		v := w.next(1)
		first, second := w.group(begin), w.group(begin)
		if first == 0 || first > 2*v || second > 2*v-first {
			panic(wrong{api.Order, begin})
		}
		n.Ands = append(n.Ands, api.And{Var: v, A: 2*v - first, B: 2*v - first - second})
	}
}

func (w *words) memory() api.Memory {
	var m api.Memory
	begin := w.at
	w.letter("m ")
	m.Addr = w.upTo(1, api.MaxAddr, api.Width)
	w.letter(" ")
	m.Word = w.upTo(1, api.MaxWord, api.Width)
	w.letter(" ")
	m.Any = w.upTo(0, 1, api.Number) == 1
	w.letter(" ")
	reads := w.upTo(0, api.MaxPorts, api.Limit)
	w.letter(" ")
	writes := w.upTo(0, api.MaxPorts, api.Limit)
	w.letter("\n")
	for i := range reads * m.Word {
		if w.defined+i+1 > w.vars {
			panic(wrong{api.Limit, begin})
		}
	}
	for range reads {
		w.letter("r")
		m.Reads = append(m.Reads, api.Read{Var: w.next(m.Word), Addr: w.spaced(m.Addr)})
		w.letter("\n")
	}
	for range writes {
		w.letter("w")
		all := w.spaced(1 + m.Addr + m.Word)
		m.Writes = append(m.Writes, api.Write{On: all[0], Addr: all[1 : 1+m.Addr], Data: all[1+m.Addr:]})
		w.letter("\n")
	}
	return m
}

// circle: told round by round: are there values that none can tell?
func circle(n api.Net) bool {
	hangs := map[int][]int{}
	for _, a := range n.Ands {
		hangs[a.Var] = []int{a.A, a.B}
	}
	for _, m := range n.Mems {
		for _, r := range m.Reads {
			for i := range m.Word {
				hangs[r.Var+i] = r.Addr
			}
		}
	}
	for left := -1; left != len(hangs); {
		left = len(hangs)
		for v, on := range hangs {
			if !slices.ContainsFunc(on, func(l int) bool { return hangs[l/2] != nil }) {
				delete(hangs, v)
			}
		}
	}
	return len(hangs) > 0
}

// agree: Parse tells the same as the test's own reader; it is told which fault.
func agree(t *testing.T, text string) api.Fault {
	t.Helper()
	want, wantAt, wantKind := reckon(text)
	got, at, kind := binary.Parse([]byte(text))
	if at != wantAt || kind != wantKind || !net.Same(got, want) {
		t.Fatalf("%q: %v, %d at %d, not %v, %d at %d", text, got, kind, at, want, wantKind, wantAt)
	}
	if kind != api.OK {
		same(t, fmt.Sprintf("the netlist of %q", text), reflect.DeepEqual(got, api.Net{}), true)
		return kind
	}
	printed, kind := binary.Print(got)
	same(t, fmt.Sprintf("Print's fault, of %q", text), kind, api.OK)
	same(t, fmt.Sprintf("%q begins with its bytes", text), strings.HasPrefix(text, string(printed)), true)
	return api.OK
}

// spoilt: bytes, changed at one place.
func spoilt(c *chance, text string) string {
	letters := []string{" ", "\n", "0", "1", "2", "3", "9", "a", "g", "m", "r", "w", "c", "-", "\x00", "\x01", "\x05", "\x7f", "\x80", "\xff"}
	numbers := []string{"0", "1", "2", "3", "4", "5", "6", "9", "13", "62", "63", "64", "65", "1000", "1001", "2000", "2001", "1099511627776", "1099511627777", "00", "07", "9223372036854775808", "-1", ""}
	at := c.below(len(text) + 1)
	switch kind := c.below(10); {
	case kind == 0 && at < len(text):
		return text[:at] + letters[c.below(len(letters))] + text[at+1:]
	case kind == 1 && at < len(text):
		return text[:at] + text[at+1:]
	case kind == 2:
		return text[:at] + letters[c.below(len(letters))] + text[at:]
	case kind == 3:
		return text[:at]
	case kind == 4: // a line goes, or comes again
		list := strings.SplitAfter(text, "\n")
		i := c.below(len(list))
		if c.below(2) == 0 {
			return strings.Join(slices.Delete(list, i, i+1), "")
		}
		return strings.Join(slices.Insert(list, i, list[i]), "")
	case kind == 5: // a byte near the end becomes another one: ands stand there
		at = max(0, len(text)-1-c.below(12))
		return text[:at] + string([]byte{byte(c.below(256))}) + text[min(at+1, len(text)):]
	case kind == 6 && strings.Contains(text, "\nr "): // a port reads at another address
		at = strings.LastIndex(text, "\nr ") + len("\nr ")
		end := at + strings.IndexAny(text[at:]+" ", " \n")
		return text[:at] + fmt.Sprint(c.below(30)) + text[end:]
	default: // a number becomes another one
		begin, end := at, at
		for begin > 0 && strings.Contains("0123456789", text[begin-1:begin]) {
			begin--
		}
		for end < len(text) && strings.Contains("0123456789", text[end:end+1]) {
			end++
		}
		return text[:begin] + numbers[c.below(len(numbers))] + text[end:]
	}
}

// TestSpoilt: of bytes in which something was changed the same is told as by the test's own reader.
func TestSpoilt(t *testing.T) {
	c := chance(3)
	met := map[api.Fault]int{}
	for range 40000 {
		printed, kind := binary.Print(drawn(&c))
		if kind != api.OK {
			continue
		}
		text := string(printed)
		for range 1 + c.below(2) {
			text = spoilt(&c, text)
		}
		met[agree(t, text)]++
	}
	for _, kind := range []api.Fault{api.OK, api.Syntax, api.Header, api.Number, api.Dangling, api.Cycle, api.Width, api.Limit, api.Order, api.Truncated, api.Trailing, api.Illegal} {
		if met[kind] < 20 {
			t.Errorf("the fault %d was met %d times only", kind, met[kind])
		}
	}
	same(t, "Twice, and Missing, which no bytes can be", met[api.Twice]+met[api.Missing], 0)
}

// TestKept: what is handed in stays as it was, spare room too; what is handed out is new.
func TestKept(t *testing.T) {
	room := []byte(wholeBytes + "c\nspare")
	first, _, _ := binary.Parse(room[: len(wholeBytes)+2 : len(room)])
	same(t, "the bytes", string(room), wholeBytes+"c\nspare")
	clear(room)
	same(t, "the netlist, when the bytes are others", net.Same(first, whole()), true)

	n := whole()
	n.Mems[0].Reads[0].Addr = append(n.Mems[0].Reads[0].Addr, 77)[:2]
	n.Mems[0].Writes[0].Addr = append(n.Mems[0].Writes[0].Addr, 78)[:2]
	n.Outputs = append(n.Outputs, 79)[:2]
	for range 2 {
		printed, _ := binary.Print(n)
		same(t, "the bytes", string(printed), wholeBytes)
		clear(printed[:cap(printed)])
		same(t, "numbered", binary.Numbered(n), true)
	}
	same(t, "the netlist", net.Same(n, whole()), true)
	same(t, "spare rooms", fmt.Sprint(n.Mems[0].Reads[0].Addr[:3][2], n.Mems[0].Writes[0].Addr[:3][2], n.Outputs[:3][2]), "77 78 79")
}

// TestApart: no two lists of one netlist share memory, in their spare room neither.
func TestApart(t *testing.T) {
	n, _, _ := binary.Parse([]byte(wholeBytes))
	lists := [][]int{n.Inputs, n.Outputs, n.Bads, n.Constraints}
	for _, m := range n.Mems {
		for _, r := range m.Reads {
			lists = append(lists, r.Addr)
		}
		for _, w := range m.Writes {
			lists = append(lists, w.Addr, w.Data)
		}
	}
	for i, list := range lists {
		lists[i] = list[:cap(list)]
		for j := range lists[i] {
			lists[i][j] = i
		}
	}
	for i, list := range lists {
		same(t, "a list's first, when all lists were written", list[0], i)
		same(t, "its last", list[len(list)-1], i)
	}
}

// TestStrange: whatever comes in, each call ends, and none panics.
func TestStrange(t *testing.T) {
	n, at, kind := binary.Parse(nil)
	same(t, "nil", fmt.Sprint(int(kind), at, reflect.DeepEqual(n, api.Net{})), "3 0 true")
	refused(t, api.Number, "aig ^"+strings.Repeat("1", 1<<20), "aig ^"+strings.Repeat("0", 1<<20), "aig 1 0 0 0 1 0 0\n^"+strings.Repeat("\x80", 1<<20))
	_, _, kind = binary.Parse([]byte("aig 0 0 0 0 0 0 0\nc\n" + strings.Repeat("c\n", 1<<20)))
	same(t, "a long end", kind, api.OK)
	same(t, "no netlist", binary.Numbered(api.Net{}), true)
	for _, number := range []int{math.MinInt, math.MinInt + 1, -1 << 61, -2, -1, 15, 30, 65, 2001, 4002, 1 << 31, 1 << 61, math.MaxInt - 63, math.MaxInt} {
		n := whole()
		for _, place := range []*int{&n.Vars, &n.Inputs[0], &n.Latches[1].Var, &n.Latches[1].Next, &n.Latches[1].Init, &n.Outputs[0], &n.Bads[0], &n.Constraints[0],
			&n.Mems[0].Addr, &n.Mems[0].Word, &n.Mems[0].Reads[0].Var, &n.Mems[0].Reads[0].Addr[1], &n.Mems[0].Writes[0].On, &n.Mems[0].Writes[0].Addr[0],
			&n.Mems[0].Writes[0].Data[2], &n.Ands[0].Var, &n.Ands[1].A, &n.Ands[1].B} {
			was := *place
			*place = number
			numbered := binary.Numbered(n)
			printed, kind := binary.Print(n)
			switch check := topo.Check(n); {
			case check != api.OK:
				same(t, "Print", kind, check)
			case !numbered:
				same(t, "Print", kind, api.Order)
			default:
				same(t, "Print", kind, api.OK)
			}
			same(t, "some bytes", len(printed) > 0, kind == api.OK)
			*place = was
		}
	}
}

// TestExamples: the chapter's, and the whole's first.
func TestExamples(t *testing.T) {
	n, at, kind := binary.Parse([]byte("aig 1 1 0 0 0 1 0\n2\n"))
	same(t, "one input, which is bad", fmt.Sprint(n, at, int(kind)), fmt.Sprint(api.Net{Vars: 1, Inputs: []int{1}, Bads: []int{2}}, 0, 0))
	n, at, kind = binary.Parse([]byte("aig 0 0 0 0 0 1 0\n1\n"))
	same(t, "always bad", fmt.Sprint(n, at, int(kind)), fmt.Sprint(api.Net{Bads: []int{1}}, 0, 0))
}
