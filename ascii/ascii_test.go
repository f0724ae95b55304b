package ascii_test

import (
	"fmt"
	"math"
	"reflect"
	"slices"
	"strings"
	"testing"

	"astrarium/api"
	"astrarium/ascii"
	"astrarium/net"
	"astrarium/topo"
)

func same[T comparable](t *testing.T, what string, got, want T) {
	t.Helper()
	if got != want {
		t.Errorf("%s: %v, not %v", what, got, want)
	}
}

// whole: a netlist that is right, and has some of everything.
func whole() api.Net {
	return api.Net{
		Vars:        14,
		Inputs:      []int{3, 1},
		Latches:     []api.Latch{{Var: 2, Next: 29}, {Var: 14, Next: 5, Init: 1}, {Var: 4, Next: 27, Init: api.Any}},
		Outputs:     []int{28, 1},
		Bads:        []int{6, 7, 0},
		Constraints: []int{8},
		Mems: []api.Memory{
			{Addr: 2, Word: 3, Any: true,
				Reads:  []api.Read{{Var: 5, Addr: []int{17, 3}}, {Var: 10, Addr: []int{28, 0}}},
				Writes: []api.Write{{On: 26, Addr: []int{6, 9}, Data: []int{10, 11, 12}}, {On: 1, Addr: []int{0, 1}, Data: []int{1, 0, 20}}}},
			{Addr: 1, Word: 1, Reads: []api.Read{{Var: 8, Addr: []int{5}}}},
		},
		Ands: []api.And{{Var: 13, A: 18, B: 11}, {Var: 9, A: 2, B: 29}},
	}
}

// wholeText: of the whole.
const wholeText = "aagm 14 2 3 2 2 3 1 2\n" +
	"6\n2\n" +
	"4 29 0\n28 5 1\n8 27 8\n" +
	"28\n1\n" +
	"6\n7\n0\n" +
	"8\n" +
	"m 2 3 1 2 2\nr 10 17 3\nr 20 28 0\nw 26 6 9 10 11 12\nw 1 0 1 1 0 20\n" +
	"m 1 1 0 1 0\nr 16 5\n" +
	"26 18 11\n18 2 29\n"

// lines: a text of these lines.
func lines(list ...string) string {
	return strings.Join(list, "\n") + "\n"
}

// repeated: a line, so many times.
func repeated(line string, count int) string {
	return strings.Repeat(line+"\n", count)
}

// told: netlists, and their texts.
func told() map[string]api.Net {
	full := api.Net{Vars: api.MaxVars}
	text := fmt.Sprintf("aag %d %d 0 0 0 0 0\n", api.MaxVars, api.MaxVars)
	for v := api.MaxVars; v > 0; v-- {
		full.Inputs = append(full.Inputs, v)
		text += fmt.Sprintln(2 * v)
	}
	return map[string]api.Net{
		wholeText:                                    whole(),
		text:                                         full,
		lines("aag 0 0 0 0 0 0 0"):                   {},
		lines("aag 0 0 0 0 0 1 0", "1"):              {Bads: []int{1}},
		lines("aag 1 1 0 0 0 1 0", "2", "2"):         {Vars: 1, Inputs: []int{1}, Bads: []int{2}},
		lines("aag 1 0 1 0 0 0 0", "2 3 0"):          {Vars: 1, Latches: []api.Latch{{Var: 1, Next: 3}}},
		lines("aag 1 0 1 0 0 0 0", "2 0 1"):          {Vars: 1, Latches: []api.Latch{{Var: 1, Init: 1}}},
		lines("aag 1 0 1 0 0 0 0", "2 1 2"):          {Vars: 1, Latches: []api.Latch{{Var: 1, Next: 1, Init: api.Any}}},
		lines("aag 1 0 0 0 1 0 0", "2 0 1"):          {Vars: 1, Ands: []api.And{{Var: 1, A: 0, B: 1}}},
		lines("aag 0 0 0 1 0 1 1", "0", "1", "0"):    {Outputs: []int{0}, Bads: []int{1}, Constraints: []int{0}},
		lines("aag 2 0 0 0 2 0 0", "2 5 4", "4 0 1"): {Vars: 2, Ands: []api.And{{Var: 1, A: 5, B: 4}, {Var: 2, A: 0, B: 1}}},
		lines("aagm 0 0 0 0 0 0 0 1", "m 1 1 0 0 0"): {Mems: []api.Memory{{Addr: 1, Word: 1}}},
		lines("aagm 0 0 0 0 0 0 0 4", "m 62 64 1 0 0", "m 1 64 0 0 0", "m 62 1 0 0 0", "m 2 3 1 0 0"): {Mems: []api.Memory{{Addr: 62, Word: 64, Any: true},
			{Addr: 1, Word: 64}, {Addr: 62, Word: 1}, {Addr: 2, Word: 3, Any: true}}},
		lines("aagm 4 0 0 0 0 0 0 1", "m 1 1 0 4 4", "r 8 0", "r 2 8", "r 6 1", "r 4 7", "w 0 1 2", "w 1 0 9", "w 2 3 4", "w 5 4 3"): {Vars: 4,
			Mems: []api.Memory{{Addr: 1, Word: 1,
				Reads:  []api.Read{{Var: 4, Addr: []int{0}}, {Var: 1, Addr: []int{8}}, {Var: 3, Addr: []int{1}}, {Var: 2, Addr: []int{7}}},
				Writes: []api.Write{{On: 0, Addr: []int{1}, Data: []int{2}}, {On: 1, Addr: []int{0}, Data: []int{9}}, {On: 2, Addr: []int{3}, Data: []int{4}}, {On: 5, Addr: []int{4}, Data: []int{3}}}}}},
		"aag 0 0 0 333 0 333 334\n" + repeated("1", 1000): {Outputs: slices.Repeat([]int{1}, 333), Bads: slices.Repeat([]int{1}, 333), Constraints: slices.Repeat([]int{1}, 334)},
	}
}

// TestP701Print: the text of netlists that are right.
func TestP701Print(t *testing.T) {
	for text, n := range told() {
		got, kind := ascii.Print(n)
		same(t, "the fault of "+text, kind, api.OK)
		same(t, "the text", string(got), text)
	}
}

// TestP701Fault: topo's Check's, and no text.
func TestP701Fault(t *testing.T) {
	for want, spoil := range map[api.Fault]func(n *api.Net){
		api.Limit:    func(n *api.Net) { n.Vars = api.MaxVars + 1 },
		api.Width:    func(n *api.Net) { n.Mems[0].Reads[1].Addr = []int{0} },
		api.BadArg:   func(n *api.Net) { n.Latches[2].Init = 3 },
		api.Dangling: func(n *api.Net) { n.Bads[0] = 30 },
		api.Twice:    func(n *api.Net) { n.Inputs[0] = 1 },
		api.Missing:  func(n *api.Net) { n.Inputs = n.Inputs[1:] },
		api.Cycle:    func(n *api.Net) { n.Ands[1].A = 26 },
	} {
		n := whole()
		spoil(&n)
		same(t, "Check", topo.Check(n), want)
		text, kind := ascii.Print(n)
		same(t, "Print", kind, want)
		same(t, "the text's bytes", len(text), 0)
	}
}

// TestP702Parse: the netlist of a text, with and without c.
func TestP702Parse(t *testing.T) {
	for text, want := range told() {
		for _, behind := range []string{"", "c\n", "c\nany", "c\n\n", "c\n\x00\xffc\n", "c\naag 0 0 0 0 0 0 0\n"} {
			got, at, kind := ascii.Parse([]byte(text + behind))
			same(t, "the fault of "+text, kind, api.OK)
			same(t, "the offset of "+text, at, 0)
			if !net.Same(got, want) {
				t.Errorf("%q: %v, not %v", text, got, want)
			}
		}
	}
}

// refused: a text, in which ^ stands ahead of what is wrong, is refused for that.
func refused(t *testing.T, kind api.Fault, text string) {
	t.Helper()
	at := strings.IndexByte(text, '^')
	n, gotAt, gotKind := ascii.Parse([]byte(strings.Replace(text, "^", "", 1)))
	if gotKind != kind || gotAt != at {
		t.Errorf("%q: %d at %d, not %d at %d", text, gotKind, gotAt, kind, at)
	}
	if !reflect.DeepEqual(n, api.Net{}) {
		t.Errorf("%q: something of what is refused: %v", text, n)
	}
}

func allRefused(t *testing.T, kind api.Fault, texts ...string) {
	t.Helper()
	for _, text := range texts {
		refused(t, kind, text)
	}
}

// TestP702Header: the first word, and the space behind it.
func TestP702Header(t *testing.T) {
	allRefused(t, api.Header,
		"^", "^a", "^aa", "^aag", "^aagm", "^aag\n", "^aagm\n", "^aagn 0 0 0 0 0 0 0 1\n", "^ aag 0 0 0 0 0 0 0\n", "^aig 0 0 0 0 0 0 0\n", "^aigm 0 0 0 0 0 0 0 1\n",
		"^AAG 0 0 0 0 0 0 0\n", "^aag0 0 0 0 0 0 0\n", "^aag\t0 0 0 0 0 0 0\n", "^aagmm 0 0 0 0 0 0 0 1\n", "^axg", "^\xef\xbb\xbfaag 0 0 0 0 0 0 0\n", "^c\n", "^\n")
}

// TestP702Truncated: the text ends where a number, a space, a line feed or a letter must come.
func TestP702Truncated(t *testing.T) {
	allRefused(t, api.Truncated,
		"aag ^", "aagm ^", "aag 0^", "aag 0 ^", "aag 0 0 0 0 0 0 ^", "aag 0 0 0 0 0 0 0^", "aagm 0 0 0 0 0 0 0^", "aagm 0 0 0 0 0 0 0 ^", "aagm 0 0 0 0 0 0 0 1^", "aagm 0 0 0 0 0 0 0 1\n^",
		"aag 1 1 0 0 0 0 0\n^", "aag 1 1 0 0 0 0 0\n2^", "aag 1 0 1 0 0 0 0\n2^", "aag 1 0 1 0 0 0 0\n2 ^", "aag 1 0 1 0 0 0 0\n2 2^", "aag 1 0 1 0 0 0 0\n2 2 ^", "aag 1 0 1 0 0 0 0\n2 2 2^",
		"aag 0 0 0 1 0 0 0\n^", "aag 0 0 0 0 0 1 0\n^", "aag 0 0 0 0 0 0 1\n^", "aag 0 0 0 1 0 0 0\n1^", "aag 0 0 0 1 0 1 1\n1\n1\n1^",
		"aag 1 0 0 0 1 0 0\n^", "aag 1 0 0 0 1 0 0\n2^", "aag 1 0 0 0 1 0 0\n2 ^", "aag 1 0 0 0 1 0 0\n2 1^", "aag 1 0 0 0 1 0 0\n2 1 ^", "aag 1 0 0 0 1 0 0\n2 1 1^")
	memory := "aagm 2 1 0 0 0 0 0 1\n2\n"
	allRefused(t, api.Truncated,
		memory+"^", memory+"m^", memory+"m ^", memory+"m 1^", memory+"m 1 1 0 1^", memory+"m 1 1 0 1 ^", memory+"m 1 1 0 1 1^", memory+"m 1 1 0 1 1\n^", memory+"m 1 1 0 1 1\nr^", memory+"m 1 1 0 1 1\nr ^",
		memory+"m 1 1 0 1 1\nr 4^", memory+"m 1 1 0 1 1\nr 4 ^", memory+"m 1 1 0 1 1\nr 4 2^", memory+"m 1 1 0 1 1\nr 4 2\n^", memory+"m 1 1 0 1 1\nr 4 2\nw^", memory+"m 1 1 0 1 1\nr 4 2\nw ^",
		memory+"m 1 1 0 1 1\nr 4 2\nw 1^", memory+"m 1 1 0 1 1\nr 4 2\nw 1 ^", memory+"m 1 1 0 1 1\nr 4 2\nw 1 2^", memory+"m 1 1 0 1 1\nr 4 2\nw 1 2 ^", memory+"m 1 1 0 1 1\nr 4 2\nw 1 2 3^")
}

// TestP702Syntax: a byte stands where another one must.
func TestP702Syntax(t *testing.T) {
	allRefused(t, api.Syntax,
		"aag ^ 0 0 0 0 0 0 0\n", "aag ^-1 0 0 0 0 0 0\n", "aag ^+1 0 0 0 0 0 0\n", "aag ^m", "aagm ^\n", "aag 0^\t0 0 0 0 0 0\n", "aag 0 ^ 0 0 0 0 0 0\n", "aag 0^x 0 0 0 0 0 0\n", "aag 0^.5 0 0 0 0 0\n",
		"aag 0 0 0 0 0 0^\n", "aag 0 0 0 0 0 0 0^ \n", "aag 0 0 0 0 0 0 0^ 0\n", "aag 0 0 0 0 0 0 0^\r\n", "aagm 0 0 0 0 0 0 0^\n", "aagm 0 0 0 0 0 0 0 1^ \n", "aagm 0 0 0 0 0 0 0 1^ 1\n",
		"aag 1 1 0 0 0 0 0\n^\n2\n", "aag 1 1 0 0 0 0 0\n^ 2\n", "aag 1 1 0 0 0 0 0\n2^ \n", "aag 1 1 0 0 0 0 0\n2^ 2\n", "aag 1 1 0 0 0 0 0\n^c\n", "aag 1 1 0 0 0 0 0\n^i 2\n",
		"aag 1 0 1 0 0 0 0\n2^\n", "aag 1 0 1 0 0 0 0\n2 2^\n", "aag 1 0 1 0 0 0 0\n2 2 2^ \n", "aag 1 0 1 0 0 0 0\n2 ^ 2 2\n", "aag 1 0 1 0 0 0 0\n2 2 ^x\n",
		"aag 0 0 0 1 0 0 0\n1^ \n", "aag 0 0 0 1 0 0 0\n^a\n", "aag 0 0 0 0 0 1 0\n^b\n", "aag 0 0 0 0 0 0 1\n^c\n", "aag 0 0 0 2 0 0 0\n1^ 1\n",
		"aag 1 0 0 0 1 0 0\n2^\n", "aag 1 0 0 0 1 0 0\n2 1^\n", "aag 1 0 0 0 1 0 0\n2 1 1^ 1\n", "aag 1 0 0 0 1 0 0\n2 ^-1 1\n")
	memory := "aagm 2 1 0 0 0 0 0 1\n2\n"
	allRefused(t, api.Syntax,
		memory+"^\n", memory+"^M 1 1 0 0 0\n", memory+"^r 4 2\n", memory+"^1 1 0 0 0\n", memory+"m^1 1 0 0 0\n", memory+"m^\n", memory+"m ^x 1 0 0 0\n", memory+"m 1 1 ^- 0 0\n", memory+"m 1 1 0 0^\n", memory+"m 1 1 0 1 1^ \n",
		memory+"m 1 1 0 1 1\n^w 1 2 3\n", memory+"m 1 1 0 1 1\n^4 2\n", memory+"m 1 1 0 1 1\nr^4 2\n", memory+"m 1 1 0 1 1\nr ^ 4 2\n", memory+"m 1 1 0 1 1\nr 4^\n", memory+"m 1 1 0 1 1\nr 4 2^ 2\n", memory+"m 2 1 0 1 1\nr 4 2^\n",
		memory+"m 1 1 0 1 1\nr 4 2\n^r 4 2\n", memory+"m 1 1 0 1 1\nr 4 2\n^m 1 1 0 0 0\n", memory+"m 1 1 0 1 1\nr 4 2\n^1 2 3\n", memory+"m 1 1 0 1 1\nr 4 2\nw^1 2 3\n", memory+"m 1 1 0 1 1\nr 4 2\nw 1^\n", memory+"m 1 1 0 1 1\nr 4 2\nw 1 2^\n",
		memory+"m 1 1 0 1 1\nr 4 2\nw 1 2 3^ 3\n", memory+"m 1 2 0 0 1\nw 1 2 3^\n", memory+"m 1 2 0 0 1\nw 1 2 3 4^ \n")
}

// TestP702Number: a further zero, a number above 2^40; a memory's third one above 1.
func TestP702Number(t *testing.T) {
	const above = "1099511627777"
	head := []string{"0", "0", "0", "0", "0", "0", "0", "1"}
	for i := range head {
		for _, number := range []string{"00", "01", "0000000000000000000000", above, "1099511627780", "99999999999999", "18446744073709551616", strings.Repeat("9", 400)} {
			spoilt := slices.Clone(head)
			spoilt[i] = "^" + number
			refused(t, api.Number, "aagm "+strings.Join(spoilt, " ")+"\nm 1 1 0 0 0\n")
			if i < 7 {
				refused(t, api.Number, "aag "+strings.Join(spoilt[:7], " ")+"\n")
			}
		}
	}
	allRefused(t, api.Number,
		"aag ^00", "aag ^"+above, "aag 1 1 0 0 0 0 0\n^02\n", "aag 1 1 0 0 0 0 0\n^"+above+"\n",
		"aag 1 0 1 0 0 0 0\n^02 2 2\n", "aag 1 0 1 0 0 0 0\n2 ^02 2\n", "aag 1 0 1 0 0 0 0\n2 2 ^02\n", "aag 1 0 1 0 0 0 0\n2 2 ^00\n", "aag 1 0 1 0 0 0 0\n2 2 ^"+above+"\n",
		"aag 0 0 0 1 0 0 0\n^01\n", "aag 0 0 0 0 0 1 0\n^00\n", "aag 0 0 0 0 0 0 1\n^"+above+"\n", "aag 1 0 0 0 1 0 0\n2 ^01 1\n", "aag 1 0 0 0 1 0 0\n2 1 ^"+above+"\n")
	memory := "aagm 2 1 0 0 0 0 0 1\n2\n"
	allRefused(t, api.Number,
		memory+"m 1 1 ^2 1 1\nr 4 2\nw 1 2 3\n", memory+"m 1 1 ^3", memory+"m 1 1 ^01 1 1\n", memory+"m 1 1 ^1099511627776 1 1\n", memory+"m 1 1 ^"+above+" 1 1\n",
		memory+"m ^01 1 0 1 1\n", memory+"m 1 ^"+above+" 0 1 1\n", memory+"m 1 1 0 ^00 1\n", memory+"m 1 1 0 1 ^"+above+"\n",
		memory+"m 1 1 0 1 1\nr ^04 2\n", memory+"m 1 1 0 1 1\nr 4 ^02\n", memory+"m 1 1 0 1 1\nr 4 2\nw ^01 2 3\n", memory+"m 1 1 0 1 1\nr 4 2\nw 1 ^02 3\n", memory+"m 1 1 0 1 1\nr 4 2\nw 1 2 ^"+above+"\n")
}

// TestP702Limit: more than may be, as soon as it is read.
func TestP702Limit(t *testing.T) {
	allRefused(t, api.Limit,
		"aag ^2001", "aag ^2001x", "aag ^2001 0", "aag ^1099511627776 0 0 0 0 0 0\n", "aag 0 ^2001 0 0 0 0 0\n", "aag 0 0 ^2001 0 0 0 0\n", "aag 0 0 0 0 ^2001 0 0\n", "aag 0 0 0 0 ^2001",
		"aag 0 0 0 1001 0 0 ^0\n", "aag 0 0 0 0 0 1001 ^0\n", "aag 0 0 0 0 0 0 ^1001\n", "aag 0 0 0 500 0 500 ^1\n", "aag 0 0 0 1 0 999 ^1", "aag 0 0 0 1099511627776 0 1099511627776 ^1099511627776\n",
		"aag 0 0 0 1001 ^2001 0 0\n", "aagm 0 0 0 500 0 501 ^0 1\n",
		"aagm 0 0 0 0 0 0 0 ^0\n", "aagm 0 0 0 0 0 0 0 ^5\n", "aagm 0 0 0 0 0 0 0 ^0", "aagm 0 0 0 0 0 0 0 ^1099511627776\n",
		"aagm 0 0 0 0 0 0 0 1\nm 1 1 0 ^5 0\n", "aagm 0 0 0 0 0 0 0 1\nm 1 1 0 0 ^5\n", "aagm 0 0 0 0 0 0 0 1\nm 1 1 0 ^5", "aagm 0 0 0 0 0 0 0 1\nm 1 1 0 0 ^1099511627776", "aagm 0 0 0 0 0 0 0 2\nm 1 1 0 0 0\nm 1 1 0 0 ^5\n")
	refused(t, api.Truncated, "aag 2000 2000 2000 500 2000 499 1\n^")
	refused(t, api.Truncated, "aag 0 0 0 1099511627776 0 1099511627776 ^")
}

// TestP702Width: of addresses and words.
func TestP702Width(t *testing.T) {
	allRefused(t, api.Width,
		"aagm 0 0 0 0 0 0 0 1\nm ^0 1 0 0 0\n", "aagm 0 0 0 0 0 0 0 1\nm ^63 1 0 0 0\n", "aagm 0 0 0 0 0 0 0 1\nm 1 ^0 0 0 0\n", "aagm 0 0 0 0 0 0 0 1\nm 1 ^65 0 0 0\n", "aagm 0 0 0 0 0 0 0 1\nm ^0",
		"aagm 0 0 0 0 0 0 0 1\nm ^1099511627776 0 2 5 5\n", "aagm 0 0 0 0 0 0 0 1\nm 62 ^65 2 5 5\n", "aagm 0 0 0 0 0 0 0 2\nm 62 64 0 0 0\nm 62 ^0 0 0 0\n")
}

// TestP702Dangling: literals of no variable; of definitions, what is none; data beyond M.
func TestP702Dangling(t *testing.T) {
	allRefused(t, api.Dangling,
		"aag 1 1 0 0 0 0 0\n^0\n", "aag 1 1 0 0 0 0 0\n^1\n", "aag 1 1 0 0 0 0 0\n^3\n", "aag 1 1 0 0 0 0 0\n^4\n", "aag 1 1 0 0 0 0 0\n^5", "aag 1 1 0 0 0 0 0\n^1099511627776\n", "aag 0 1 0 0 0 0 0\n^2\n",
		"aag 1 2 0 0 0 0 0\n2\n^3\n", "aag 1 0 1 0 0 0 0\n^0 0 0\n", "aag 1 0 1 0 0 0 0\n^1 0 1\n", "aag 1 0 1 0 0 0 0\n^3 0 3\n", "aag 1 0 1 0 0 0 0\n^4 9 9\n", "aag 1 0 1 0 0 0 0\n2 ^4 9\n",
		"aag 1 0 0 0 1 0 0\n^0 1 1\n", "aag 1 0 0 0 1 0 0\n^1 1 1\n", "aag 1 0 0 0 1 0 0\n^3 1 1\n", "aag 1 0 0 0 1 0 0\n^4 9 9\n", "aag 1 0 0 0 1 0 0\n2 ^4 9\n", "aag 1 0 0 0 1 0 0\n2 3 ^4\n",
		"aag 0 0 0 1 0 0 0\n^2\n", "aag 0 0 0 0 0 1 0\n^2\n", "aag 0 0 0 0 0 0 1\n^2\n", "aag 1 0 0 1 0 0 0\n^4\n", "aag 2000 0 0 2 0 0 0\n4001\n^4002\n")
	memory := "aagm 4 1 0 0 0 0 0 1\n2\n"
	allRefused(t, api.Dangling,
		memory+"m 1 1 0 1 0\nr ^0 2\n", memory+"m 1 1 0 1 0\nr ^1 2\n", memory+"m 1 1 0 1 0\nr ^5 2\n", memory+"m 1 1 0 1 0\nr ^10 99\n", memory+"m 1 3 0 1 0\nr ^6 2\n", memory+"m 1 4 0 1 0\nr ^4 2\n", memory+"m 1 5 0 1 0\nr ^2 2\n",
		memory+"m 1 64 0 1 0\nr ^8 2\n", memory+"m 1 64 0 1 0\nr ^2 2\n", memory+"m 1 3 0 1 0\nr 4 ^10\n", memory+"m 2 3 0 1 0\nr 4 9 ^10\n", memory+"m 1 1 0 0 1\nw ^10 2 2\n", memory+"m 1 1 0 0 1\nw 9 ^10 2\n", memory+"m 1 1 0 0 1\nw 9 9 ^10\n",
		memory+"m 1 2 0 0 1\nw 9 9 9 ^10\n", memory+"m 2 1 0 0 1\nw 9 9 ^10 9\n", "aagm 0 0 0 0 0 0 0 1\nm 1 1 0 1 0\nr ^2 0\n")
}

// TestP702Twice: a variable that was defined ahead; of a port any one of its data.
func TestP702Twice(t *testing.T) {
	allRefused(t, api.Twice,
		"aag 1 2 0 0 0 0 0\n2\n^2\n", "aag 2 2 1 0 0 0 0\n4\n2\n^2 9 9\n", "aag 1 0 2 0 0 0 0\n2 0 0\n^2", "aag 1 1 0 0 1 0 0\n2\n^2 9 9\n", "aag 1 0 1 0 1 0 0\n2 0 0\n^2 0 0\n", "aag 1 0 0 0 2 0 0\n2 0 0\n^2 0 0\n")
	memory := "aagm 5 1 0 0 1 0 0 1\n6\n"
	allRefused(t, api.Twice,
		memory+"m 1 1 0 1 0\nr ^6 2\n", memory+"m 1 2 0 1 0\nr ^4 99\n", memory+"m 1 3 0 1 0\nr ^2 2\n", memory+"m 1 3 0 1 0\nr ^4 2\n", memory+"m 1 3 0 1 0\nr ^6", memory+"m 1 5 0 1 0\nr ^2 2\n",
		memory+"m 1 2 0 2 0\nr 2 1\nr ^2 1\n", memory+"m 1 2 0 1 0\nr 2 1\n^4 1 1\n", memory+"m 1 2 0 1 0\nr 8 1\n^10 1 1\n",
		"aagm 5 0 0 0 0 0 0 2\nm 1 2 0 1 0\nr 4 0\nm 1 2 0 1 0\nr ^6 0\n", "aagm 5 0 0 0 0 0 0 1\nm 1 2 0 2 0\nr 4 0\nr ^2 0\n")
	refused(t, api.Dangling, "aagm 5 1 0 0 0 0 0 1\n10\nm 1 2 0 1 0\nr ^10 2\n") // defined ahead, and beyond M
}

// TestP702Illegal: a latch begins with another literal than its own.
func TestP702Illegal(t *testing.T) {
	allRefused(t, api.Illegal,
		"aag 1 0 1 0 0 0 0\n2 2 ^3\n", "aag 1 0 1 0 0 0 0\n2 2 ^4\n", "aag 1 0 1 0 0 0 0\n2 2 ^99", "aag 1 0 1 0 0 0 0\n2 2 ^1099511627776\n", "aag 2 0 2 0 0 0 0\n2 2 2\n4 4 ^2\n", "aag 2 0 2 0 0 0 0\n4 4 ^2\n", "aag 1 0 1 0 0 0 0\n2 2 ^5x\n")
}

// TestP702Behind: what the whole tells is told behind the last line.
func TestP702Behind(t *testing.T) {
	allRefused(t, api.Trailing,
		"aag 0 0 0 0 0 0 0\n^c", "aag 0 0 0 0 0 0 0\n^\n", "aag 0 0 0 0 0 0 0\n^ c\n", "aag 0 0 0 0 0 0 0\n^c \n", "aag 0 0 0 0 0 0 0\n^c\r\n", "aag 0 0 0 0 0 0 0\n^cc\n", "aag 0 0 0 0 0 0 0\n^C\n", "aag 0 0 0 0 0 0 0\n^0\n", "aag 0 0 0 0 0 0 0\n^\nc\n",
		"aag 1 1 0 0 0 0 0\n2\n^x", wholeText+"^\x00", wholeText+"^"+wholeText, "aag 2 1 0 0 0 0 0\n2\n^x", "aag 1 0 0 0 1 0 0\n2 2 2\n^x", "aag 1 1 0 0 0 0 0\n2\n^2\n", "aag 0 0 0 0 0 0 0\n^m 1 1 0 0 0\n")
	allRefused(t, api.Missing,
		"aag 1 0 0 0 0 0 0\n^", "aag 2 1 0 0 0 0 0\n2\n^", "aag 2 1 0 0 0 0 0\n4\n^c\n", "aag 2 0 0 0 1 0 0\n4 4 4\n^", "aag 2000 0 0 0 0 0 0\n^c\nany", "aagm 3 0 0 0 0 0 0 1\nm 1 2 0 1 0\nr 2 0\n^")
	allRefused(t, api.Cycle,
		"aag 1 0 0 0 1 0 0\n2 2 2\n^", "aag 1 0 0 0 1 0 0\n2 0 3\n^c\n", "aag 2 0 0 0 2 0 0\n2 4 4\n4 2 2\n^c\nany", "aagm 1 0 0 0 0 0 0 1\nm 1 1 0 1 0\nr 2 2\n^", "aagm 2 0 0 0 1 0 0 1\nm 1 1 0 1 0\nr 2 4\n4 2 2\n^")
}

// TestP702First: what is read first is told, not what is worse behind it.
func TestP702First(t *testing.T) {
	refused(t, api.Limit, "aag ^2001 2001 01 x")
	refused(t, api.Syntax, "aag 1^,2001 0 0 0 0 0\n")
	refused(t, api.Dangling, "aag 1 2 1 0 0 0 0\n^3\n2\n2 2 9\n")
	refused(t, api.Twice, "aag 1 2 1 0 0 0 0\n2\n^2\n2 2 9\n")
	refused(t, api.Illegal, "aag 1 0 1 0 1 0 0\n2 2 ^9\n2 9 9\n")
	refused(t, api.Dangling, "aag 1 0 1 0 1 0 0\n2 ^9 9\n2 9 9\n")
	refused(t, api.Width, "aagm 1 0 0 0 0 0 0 1\nm ^63 65 2 5 5\n")
	refused(t, api.Number, "aagm 1 0 0 0 0 0 0 1\nm 62 64 ^2 5 5\n")
	refused(t, api.Limit, "aagm 1 0 0 0 0 0 0 1\nm 62 64 1 ^5 5\n")
}

// TestP702Prefixes: of each text that ends too early the fault is told; it lies at the end, if the text ends behind a whole word.
func TestP702Prefixes(t *testing.T) {
	for text := range told() {
		if len(text) > 4000 {
			continue
		}
		for end := range len(text) {
			n, at, kind := ascii.Parse([]byte(text[:end]))
			wantAt, wantKind := end, api.Truncated
			if end < len("aag ") || strings.HasPrefix(text, "aagm") && end < len("aagm ") {
				wantAt, wantKind = 0, api.Header
			} else if _, of, is := reckon(text[:end]); is != api.Truncated { // half a number may be wrong for itself
				wantAt, wantKind = of, is
			}
			if at != wantAt || kind != wantKind || !reflect.DeepEqual(n, api.Net{}) {
				t.Errorf("%q: %d at %d, not %d at %d", text[:end], kind, at, wantKind, wantAt)
			}
		}
	}
}

// TestP703Laws: there and back all is as it was, of many netlists.
func TestP703Laws(t *testing.T) {
	c := chance(7)
	for round := range 3000 {
		n := drawn(&c)
		text, kind := ascii.Print(n)
		if kind != api.OK {
			same(t, "Print", kind, topo.Check(n))
			same(t, "the text's bytes", len(text), 0)
			continue
		}
		got, at, kind := ascii.Parse(text)
		what := fmt.Sprint("round ", round, ": ", n)
		same(t, what, kind, api.OK)
		same(t, what, at, 0)
		same(t, what, net.Same(got, n), true)
		again, _ := ascii.Print(got)
		same(t, what, string(again), string(text))
	}
}

// chance: numbers, one after the other, always the same ones.
type chance uint64

func (c *chance) below(most int) int {
	*c = *c*6364136223846793005 + 1442695040888963407
	return int(uint64(*c>>33) % uint64(most))
}

// drawn: a netlist that is sound; many are right.
func drawn(c *chance) api.Net {
	var n api.Net
	shuffled := func(count int) []int {
		first := n.Vars + 1
		n.Vars += count
		list := make([]int, count)
		for i := range list {
			list[i] = first + i
		}
		for i := range list {
			j := c.below(i + 1)
			list[i], list[j] = list[j], list[i]
		}
		return list
	}
	ands := shuffled(c.below(3))
	n.Inputs = shuffled(c.below(4))
	for _, v := range shuffled(c.below(4)) {
		n.Latches = append(n.Latches, api.Latch{Var: v, Init: c.below(3)})
	}
	for range c.below(4) {
		m := api.Memory{Addr: 1 + c.below(3), Word: 1 + c.below(3), Any: c.below(2) == 0}
		for range c.below(3) {
			m.Reads = append(m.Reads, api.Read{Var: slices.Min(shuffled(m.Word))})
		}
		m.Writes = make([]api.Write, c.below(3))
		n.Mems = append(n.Mems, m)
	}
	for _, v := range append(ands, shuffled(c.below(4))...) {
		n.Ands = append(n.Ands, api.And{Var: v})
	}
	literals := func(count int) []int {
		list := make([]int, count)
		for i := range list {
			if list[i] = c.below(2*n.Vars + 2); c.below(2) == 0 {
				list[i] = c.below(2)
			}
		}
		return list
	}
	for i := range n.Latches {
		n.Latches[i].Next = literals(1)[0]
	}
	n.Outputs, n.Bads, n.Constraints = literals(c.below(3)), literals(c.below(3)), literals(c.below(3))
	for _, m := range n.Mems {
		for i := range m.Reads {
			m.Reads[i].Addr = literals(m.Addr)
		}
		for i := range m.Writes {
			m.Writes[i] = api.Write{On: literals(1)[0], Addr: literals(m.Addr), Data: literals(m.Word)}
		}
	}
	for i := range n.Ands {
		two := literals(2)
		n.Ands[i].A, n.Ands[i].B = two[0], two[1]
	}
	return n
}

// wrong: why a text is refused, thrown by the reader of this test.
type wrong struct {
	kind api.Fault
	at   int
}

// words: the test's own reader of texts, by the chapter's words; it throws what is wrong.
type words struct {
	text    string
	at      int
	vars    int
	defined map[int]int
}

func (w *words) letter(s string) {
	for _, c := range []byte(s) {
		if w.at == len(w.text) {
			panic(wrong{api.Truncated, w.at})
		}
		if w.text[w.at] != c {
			panic(wrong{api.Syntax, w.at})
		}
		w.at++
	}
}

// number: the digits that come; faults ahead of those of its place, which bad tells.
func (w *words) number(bad func(n int) api.Fault) int {
	begin := w.at
	for w.at < len(w.text) && strings.Contains("0123456789", w.text[w.at:w.at+1]) {
		w.at++
	}
	digits := w.text[begin:w.at]
	switch {
	case begin == len(w.text):
		panic(wrong{api.Truncated, begin})
	case digits == "":
		panic(wrong{api.Syntax, begin})
	case len(digits) > 1 && digits[0] == '0', len(digits) > 13, len(digits) == 13 && digits > "1099511627776":
		panic(wrong{api.Number, begin})
	}
	var n int
	fmt.Sscan(digits, &n)
	if kind := bad(n); kind != api.OK {
		panic(wrong{kind, begin})
	}
	return n
}

func (w *words) upTo(least, most int, kind api.Fault) int {
	return w.number(func(n int) api.Fault {
		if n < least || n > most {
			return kind
		}
		return api.OK
	})
}

func (w *words) literal() int {
	return w.upTo(0, 2*w.vars+1, api.Dangling)
}

func (w *words) spaced(count int) []int {
	var list []int
	for range count {
		w.letter(" ")
		list = append(list, w.literal())
	}
	return list
}

func (w *words) defines(count int) int {
	l := w.number(func(n int) api.Fault {
		if n < 2 || n%2 == 1 || n/2+count-1 > w.vars {
			return api.Dangling
		}
		for i := range count {
			if w.defined[n/2+i] > 0 {
				return api.Twice
			}
		}
		return api.OK
	})
	for i := range count {
		w.defined[l/2+i] = 1
	}
	return l / 2
}

// reckon: what Parse must answer.
func reckon(text string) (n api.Net, at int, kind api.Fault) {
	defer func() {
		if thrown := recover(); thrown != nil {
			w := thrown.(wrong)
			n, at, kind = api.Net{}, w.at, w.kind
		}
	}()
	w := &words{text: text, defined: map[int]int{}}
	mems := strings.HasPrefix(text, "aagm ")
	if !mems && !strings.HasPrefix(text, "aag ") {
		panic(wrong{api.Header, 0})
	}
	w.at = strings.IndexByte(text, ' ')
	var head [8]int
	for i, most := range []int{api.MaxVars, api.MaxVars, api.MaxVars, math.MaxInt, api.MaxVars, math.MaxInt, 0, api.MaxMems} {
		least := 0
		if i == 6 {
			most = api.MaxLits - head[3] - head[5]
		}
		if i == 7 {
			least = 1
		}
		if i < 7 || mems {
			w.letter(" ")
			head[i] = w.upTo(least, most, api.Limit)
		}
	}
	w.letter("\n")
	n.Vars, w.vars = head[0], head[0]
	w.netlist(&n, head)
	if rest := text[w.at:]; rest != "" && !strings.HasPrefix(rest, "c\n") {
		panic(wrong{api.Trailing, w.at})
	}
	if len(w.defined) < w.vars {
		panic(wrong{api.Missing, w.at})
	}
	if circle(n) {
		panic(wrong{api.Cycle, w.at})
	}
	return n, 0, api.OK
}

// netlist: all lines behind the first.
func (w *words) netlist(n *api.Net, head [8]int) {
	for range head[1] {
		n.Inputs = append(n.Inputs, w.defines(1))
		w.letter("\n")
	}
	for range head[2] {
		l := api.Latch{Var: w.defines(1)}
		l.Next = w.spaced(1)[0]
		w.letter(" ")
		l.Init = w.number(func(n int) api.Fault {
			if n > 1 && n != 2*l.Var {
				return api.Illegal
			}
			return api.OK
		})
		l.Init = min(l.Init, api.Any)
		n.Latches = append(n.Latches, l)
		w.letter("\n")
	}
	for i, list := range []*[]int{&n.Outputs, &n.Bads, &n.Constraints} {
		for range []int{head[3], head[5], head[6]}[i] {
			*list = append(*list, w.literal())
			w.letter("\n")
		}
	}
	for range head[7] {
		n.Mems = append(n.Mems, w.memory())
	}
	for range head[4] {
		a := api.And{Var: w.defines(1)}
		two := w.spaced(2)
		a.A, a.B = two[0], two[1]
		n.Ands = append(n.Ands, a)
		w.letter("\n")
	}
}

func (w *words) memory() api.Memory {
	var m api.Memory
	w.letter("m ")
	m.Addr = w.upTo(1, api.MaxAddr, api.Width)
	w.letter(" ")
	m.Word = w.upTo(1, api.MaxWord, api.Width)
	w.letter(" ")
	m.Any = w.upTo(0, 1, api.Number) == 1
	w.letter(" ")
	reads := w.upTo(0, api.MaxPorts, api.Limit)
	w.letter(" ")
	writes := w.upTo(0, api.MaxPorts, api.Limit)
	w.letter("\n")
	for range reads {
		w.letter("r ")
		r := api.Read{Var: w.defines(m.Word)}
		r.Addr = w.spaced(m.Addr)
		m.Reads = append(m.Reads, r)
		w.letter("\n")
	}
	for range writes {
		w.letter("w")
		all := w.spaced(1 + m.Addr + m.Word)
		m.Writes = append(m.Writes, api.Write{On: all[0], Addr: all[1 : 1+m.Addr], Data: all[1+m.Addr:]})
		w.letter("\n")
	}
	return m
}

// circle: told round by round: are there values that none can tell?
func circle(n api.Net) bool {
	hangs := map[int][]int{}
	for _, a := range n.Ands {
		hangs[a.Var] = []int{a.A, a.B}
	}
	for _, m := range n.Mems {
		for _, r := range m.Reads {
			for i := range m.Word {
				hangs[r.Var+i] = r.Addr
			}
		}
	}
	for range n.Vars {
		for v, on := range hangs {
			if !slices.ContainsFunc(on, func(l int) bool { return hangs[l/2] != nil }) {
				delete(hangs, v)
			}
		}
	}
	return len(hangs) > 0
}

// spoilt: a text, changed at one place.
func spoilt(c *chance, text string) string {
	letters := []string{" ", "\n", "0", "1", "2", "3", "9", "a", "g", "m", "r", "w", "c", "-", "\x00", "\xff"}
	numbers := []string{"0", "1", "2", "3", "4", "5", "6", "9", "13", "62", "63", "64", "65", "1000", "1001", "2000", "2001", "1099511627776", "1099511627777", "00", "07", "9223372036854775808", "-1", ""}
	at := c.below(len(text) + 1)
	switch kind := c.below(8); {
	case kind == 0 && at < len(text):
		return text[:at] + letters[c.below(len(letters))] + text[at+1:]
	case kind == 1 && at < len(text):
		return text[:at] + text[at+1:]
	case kind == 2:
		return text[:at] + letters[c.below(len(letters))] + text[at:]
	case kind == 3:
		return text[:at]
	case kind == 4: // a line goes, or comes again
		list := strings.SplitAfter(text, "\n")
		i := c.below(len(list))
		if c.below(2) == 0 {
			return strings.Join(slices.Delete(list, i, i+1), "")
		}
		return strings.Join(slices.Insert(list, i, list[i]), "")
	default: // a number becomes another one
		begin, end := at, at
		for begin > 0 && strings.Contains("0123456789", text[begin-1:begin]) {
			begin--
		}
		for end < len(text) && strings.Contains("0123456789", text[end:end+1]) {
			end++
		}
		return text[:begin] + numbers[c.below(len(numbers))] + text[end:]
	}
}

// TestSpoilt: of texts in which something was changed the same is told as by the test's own reader.
func TestSpoilt(t *testing.T) {
	c := chance(3)
	met := map[api.Fault]int{}
	for range 60000 {
		whole, kind := ascii.Print(drawn(&c))
		if kind != api.OK {
			continue
		}
		text := string(whole)
		for range 1 + c.below(2) {
			text = spoilt(&c, text)
		}
		want, wantAt, wantKind := reckon(text)
		met[wantKind]++
		got, at, kind := ascii.Parse([]byte(text))
		if at != wantAt || kind != wantKind || !net.Same(got, want) {
			t.Fatalf("%q: %v, %d at %d, not %v, %d at %d", text, got, kind, at, want, wantKind, wantAt)
		}
		if kind != api.OK {
			continue
		}
		same(t, text, topo.Check(got), api.OK)
		printed, kind := ascii.Print(got)
		same(t, text, kind, api.OK)
		same(t, text, strings.HasPrefix(text, string(printed)), true)
	}
	for _, kind := range []api.Fault{api.OK, api.Syntax, api.Header, api.Number, api.Dangling, api.Twice, api.Missing, api.Cycle, api.Width, api.Limit, api.Truncated, api.Trailing, api.Illegal} {
		if met[kind] < 20 {
			t.Errorf("the fault %d was met %d times only", kind, met[kind])
		}
	}
}

// TestKept: what is handed in stays as it was, spare room too; what is handed out is new.
func TestKept(t *testing.T) {
	room := []byte(wholeText + "c\nspare")
	first, _, _ := ascii.Parse(room[: len(wholeText)+2 : len(room)])
	same(t, "the bytes", string(room), wholeText+"c\nspare")
	clear(room)
	same(t, "the netlist, when the bytes are others", net.Same(first, whole()), true)

	n := whole()
	n.Mems[0].Reads[0].Addr = append(n.Mems[0].Reads[0].Addr, 77)[:2]
	n.Mems[0].Writes[0].Addr = append(n.Mems[0].Writes[0].Addr, 78)[:2]
	n.Outputs = append(n.Outputs, 79)[:2]
	for range 2 {
		text, _ := ascii.Print(n)
		same(t, "the text", string(text), wholeText)
		clear(text[:cap(text)])
	}
	same(t, "the netlist", net.Same(n, whole()), true)
	same(t, "spare rooms", fmt.Sprint(n.Mems[0].Reads[0].Addr[:3][2], n.Mems[0].Writes[0].Addr[:3][2], n.Outputs[:3][2]), "77 78 79")
}

// TestApart: no two lists of one netlist share memory, in their spare room neither.
func TestApart(t *testing.T) {
	n, _, _ := ascii.Parse([]byte(wholeText))
	lists := [][]int{n.Inputs, n.Outputs, n.Bads, n.Constraints}
	for _, m := range n.Mems {
		for _, r := range m.Reads {
			lists = append(lists, r.Addr)
		}
		for _, w := range m.Writes {
			lists = append(lists, w.Addr, w.Data)
		}
	}
	for i, list := range lists {
		lists[i] = list[:cap(list)]
		for j := range lists[i] {
			lists[i][j] = i
		}
	}
	for i, list := range lists {
		same(t, "a list's first, when all lists were written", list[0], i)
		same(t, "its last", list[len(list)-1], i)
	}
}

// TestStrange: whatever comes in, each call ends, and none panics.
func TestStrange(t *testing.T) {
	refused(t, api.Header, "^")
	n, at, kind := ascii.Parse(nil)
	same(t, "nil", fmt.Sprint(int(kind), at, reflect.DeepEqual(n, api.Net{})), "3 0 true")
	refused(t, api.Number, "aag ^"+strings.Repeat("1", 1<<20))
	refused(t, api.Number, "aag ^"+strings.Repeat("0", 1<<20))
	_, _, kind = ascii.Parse([]byte("aag 0 0 0 0 0 0 0\nc\n" + strings.Repeat("c\n", 1<<20)))
	same(t, "a long end", kind, api.OK)
	for _, number := range []int{math.MinInt, math.MinInt + 1, -1 << 61, -2, -1, 15, 30, 65, 2001, 4002, 1 << 31, 1 << 61, math.MaxInt - 63, math.MaxInt} {
		n := whole()
		for _, place := range []*int{&n.Vars, &n.Inputs[0], &n.Latches[1].Var, &n.Latches[1].Next, &n.Latches[1].Init, &n.Outputs[0], &n.Bads[0], &n.Constraints[0],
			&n.Mems[0].Addr, &n.Mems[0].Word, &n.Mems[0].Reads[0].Var, &n.Mems[0].Reads[0].Addr[1], &n.Mems[0].Writes[0].On, &n.Mems[0].Writes[0].Addr[0],
			&n.Mems[0].Writes[0].Data[2], &n.Ands[0].Var, &n.Ands[1].A, &n.Ands[1].B} {
			was := *place
			*place = number
			text, kind := ascii.Print(n)
			same(t, "Print", kind, topo.Check(n))
			same(t, "a text", len(text) > 0, kind == api.OK)
			*place = was
		}
	}
}

// TestExamples: the chapter's, and the whole's first.
func TestExamples(t *testing.T) {
	n, at, kind := ascii.Parse([]byte("aag 1 1 0 0 0 1 0\n2\n2\n"))
	same(t, "one input, which is bad", fmt.Sprint(n, at, int(kind)), fmt.Sprint(api.Net{Vars: 1, Inputs: []int{1}, Bads: []int{2}}, 0, 0))
	n, at, kind = ascii.Parse([]byte("aag 0 0 0 0 0 1 0\n1\n"))
	same(t, "always bad", fmt.Sprint(n, at, int(kind)), fmt.Sprint(api.Net{Bads: []int{1}}, 0, 0))
}
