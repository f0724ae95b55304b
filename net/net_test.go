package net_test

import (
	"fmt"
	"math"
	"reflect"
	"slices"
	"testing"

	"astrarium/api"
	"astrarium/net"
)

func same[T comparable](t *testing.T, what string, got, want T) {
	t.Helper()
	if got != want {
		t.Errorf("%s: %v, not %v", what, got, want)
	}
}

// sameList: alike, element by element; an empty list is like nil.
func sameList(t *testing.T, what string, got, want []int) {
	t.Helper()
	if !slices.Equal(got, want) {
		t.Errorf("%s: %v, not %v", what, got, want)
	}
}

// whole: a netlist that is sound, and has some of everything; no two of its lists share memory.
func whole() api.Net {
	return api.Net{
		Vars:        14,
		Inputs:      []int{3, 1},
		Latches:     []api.Latch{{Var: 2, Next: 29}, {Var: 14, Next: 5, Init: 1}, {Var: 4, Next: 0, Init: api.Any}},
		Outputs:     []int{28, 1},
		Bads:        []int{6, 7},
		Constraints: []int{1, 8},
		Mems: []api.Memory{
			{Addr: 2, Word: 3, Any: true,
				Reads:  []api.Read{{Var: 5, Addr: []int{2, 3}}, {Var: 10, Addr: []int{26, 0}}},
				Writes: []api.Write{{On: 4, Addr: []int{6, 9}, Data: []int{10, 11, 12}}, {On: 1, Addr: []int{0, 1}, Data: []int{1, 0, 20}}}},
			{Addr: 1, Word: 1, Reads: []api.Read{{Var: 8, Addr: []int{17}}}},
		},
		Ands: []api.And{{Var: 13, A: 24, B: 5}, {Var: 9, A: 26, B: 27}},
	}
}

// literals: where the literals of a netlist stand, in the chapter's order.
func literals(n *api.Net) []*int {
	var list []*int
	all := func(l []int) {
		for i := range l {
			list = append(list, &l[i])
		}
	}
	for i := range n.Latches {
		list = append(list, &n.Latches[i].Next)
	}
	all(n.Outputs)
	all(n.Bads)
	all(n.Constraints)
	for _, m := range n.Mems {
		for _, r := range m.Reads {
			all(r.Addr)
		}
		for i, w := range m.Writes {
			list = append(list, &m.Writes[i].On)
			all(w.Addr)
			all(w.Data)
		}
	}
	for i := range n.Ands {
		list = append(list, &n.Ands[i].A, &n.Ands[i].B)
	}
	return list
}

// numbers: where each number of a netlist stands.
func numbers(n *api.Net) []*int {
	list := append(literals(n), &n.Vars)
	for i := range n.Inputs {
		list = append(list, &n.Inputs[i])
	}
	for i := range n.Latches {
		list = append(list, &n.Latches[i].Var, &n.Latches[i].Init)
	}
	for i, m := range n.Mems {
		list = append(list, &n.Mems[i].Addr, &n.Mems[i].Word)
		for j := range m.Reads {
			list = append(list, &m.Reads[j].Var)
		}
	}
	for i := range n.Ands {
		list = append(list, &n.Ands[i].Var)
	}
	return list
}

// extremes: numbers at the ends of int, and just outside of what may be.
func extremes() []int {
	return []int{math.MinInt, math.MinInt + 1, -1 << 61, -2, -1, 15, 30, 65, 2001, 4002, 1 << 31, 1<<60 + 1, 1 << 61, math.MaxInt - 63, math.MaxInt - 1, math.MaxInt}
}

// run: numbers, one behind the other.
func run(first, count int) []int {
	list := make([]int, count)
	for i := range list {
		list[i] = first + i
	}
	return list
}

// latches: of these variables.
func latches(first, count int) []api.Latch {
	list := make([]api.Latch, count)
	for i := range list {
		list[i].Var = first + i
	}
	return list
}

// ands: of these variables.
func ands(first, count int) []api.And {
	list := make([]api.And, count)
	for i := range list {
		list[i].Var = first + i
	}
	return list
}

// memory: of these widths, with ports that fit them, whose data come from the variable first on.
func memory(addr, word, first, reads, writes int) api.Memory {
	m := api.Memory{Addr: addr, Word: word}
	for i := range reads {
		m.Reads = append(m.Reads, api.Read{Var: first + i*word, Addr: make([]int, addr)})
	}
	for range writes {
		m.Writes = append(m.Writes, api.Write{Addr: make([]int, addr), Data: make([]int, word)})
	}
	return m
}

// storing: a netlist of these memories alone, whose data have so many variables.
func storing(vars int, m ...api.Memory) api.Net {
	return api.Net{Vars: vars, Mems: m}
}

// TestP501Sound: netlists that are sound, up to all limits.
func TestP501Sound(t *testing.T) {
	full := api.Net{Vars: api.MaxVars}
	for i := range api.MaxMems {
		full.Mems = append(full.Mems, memory(api.MaxAddr, api.MaxWord, 1+i*4*64, api.MaxPorts, api.MaxPorts))
	}
	full.Ands = ands(1025, api.MaxVars-1024)
	for what, n := range map[string]api.Net{
		"nothing":                {},
		"empty lists":            {Inputs: []int{}, Latches: []api.Latch{}, Mems: []api.Memory{}, Ands: []api.And{}},
		"one input":              {Vars: 1, Inputs: []int{1}},
		"constants":              {Outputs: []int{0, 1}, Bads: []int{0, 1}, Constraints: []int{0, 1}},
		"the whole":              whole(),
		"any order":              {Vars: 3, Inputs: []int{3}, Latches: []api.Latch{{Var: 2}}, Ands: []api.And{{Var: 1}}},
		"an and of itself":       {Vars: 1, Ands: []api.And{{Var: 1, A: 2, B: 3}}},
		"a read of its own data": storing(1, api.Memory{Addr: 1, Word: 1, Reads: []api.Read{{Var: 1, Addr: []int{2}}}}),
		"as many inputs":         {Vars: api.MaxVars, Inputs: run(1, api.MaxVars), Bads: []int{2*api.MaxVars + 1}},
		"as many latches":        {Vars: api.MaxVars, Latches: latches(1, api.MaxVars)},
		"as many ands":           {Vars: api.MaxVars, Ands: ands(1, api.MaxVars)},
		"as many outputs":        {Outputs: make([]int, api.MaxLits)},
		"as many bads":           {Bads: make([]int, api.MaxLits)},
		"as many constraints":    {Constraints: make([]int, api.MaxLits)},
		"as many together":       {Outputs: make([]int, 300), Bads: make([]int, 300), Constraints: make([]int, 400)},
		"as many memories":       full,
		"no ports":               storing(0, memory(1, 1, 1, 0, 0)),
		"the least widths":       storing(1, memory(1, 1, 1, 1, 1)),
		"the greatest address":   storing(1, memory(api.MaxAddr, 1, 1, 1, 1)),
		"the greatest word":      storing(64, memory(1, api.MaxWord, 1, 1, 1)),
		"as many ports":          storing(4, memory(1, 1, 1, api.MaxPorts, api.MaxPorts)),
	} {
		same(t, what, net.Sound(n), api.OK)
	}
}

// TestP501Limit: one beyond each limit, whatever else is wrong then.
func TestP501Limit(t *testing.T) {
	five := make([]api.Memory, api.MaxMems+1)
	for i := range five {
		five[i] = memory(1, 1, 1, 0, 0)
	}
	for what, n := range map[string]api.Net{
		"variables below 0":         {Vars: -1},
		"the least number":          {Vars: math.MinInt},
		"a variable more":           {Vars: api.MaxVars + 1, Inputs: run(1, api.MaxVars), Latches: latches(api.MaxVars+1, 1)},
		"the greatest number":       {Vars: math.MaxInt},
		"an output more":            {Outputs: make([]int, api.MaxLits+1)},
		"a bad more":                {Bads: make([]int, api.MaxLits+1)},
		"a constraint more":         {Constraints: make([]int, api.MaxLits+1)},
		"outputs and bads":          {Outputs: make([]int, 500), Bads: make([]int, 501)},
		"outputs and constraints":   {Outputs: make([]int, 500), Constraints: make([]int, 501)},
		"bads and constraints":      {Bads: make([]int, api.MaxLits), Constraints: make([]int, 1)},
		"one more together":         {Outputs: make([]int, 300), Bads: make([]int, 300), Constraints: make([]int, 401)},
		"a memory more":             {Mems: five},
		"a port of reading more":    storing(5, memory(1, 1, 1, api.MaxPorts+1, 0)),
		"a port of writing more":    storing(0, memory(1, 1, 1, 0, api.MaxPorts+1)),
		"a port more, further back": storing(1, memory(1, 1, 1, 1, 1), memory(1, 1, 1, 0, 0), memory(1, 1, 1, 0, 5)),
		"an input more":             {Vars: api.MaxVars, Inputs: run(0, api.MaxVars+1)},
		"a latch more":              {Vars: api.MaxVars, Latches: latches(0, api.MaxVars+1)},
		"an and more":               {Vars: api.MaxVars, Ands: ands(0, api.MaxVars+1)},
	} {
		same(t, what, net.Sound(n), api.Limit)
	}
	// each of them alone counts: together they are too many variables, which is no Limit
	together := api.Net{Vars: api.MaxVars, Inputs: run(1, 1500), Latches: latches(1, 1500), Ands: ands(1, 1500)}
	same(t, "inputs, latches and ands together", net.Sound(together), api.Twice)
}

// TestP501Width: widths that can't be, and ports of other widths, in whichever memory and port.
func TestP501Width(t *testing.T) {
	for _, width := range append(extremes(), 0, api.MaxAddr+1) {
		m := memory(1, 1, 1, 0, 0)
		m.Addr = width
		want := api.Width
		if width >= 1 && width <= api.MaxAddr {
			want = api.OK
		}
		same(t, fmt.Sprint("an address of ", width), net.Sound(storing(0, m)), want)
		same(t, fmt.Sprint("an address of ", width, " behind"), net.Sound(storing(0, memory(1, 1, 1, 0, 0), m)), want)
	}
	for _, width := range append(extremes(), 0, api.MaxWord+1) {
		m := memory(1, 1, 1, 0, 0)
		m.Word = width
		want := api.Width
		if width >= 1 && width <= api.MaxWord {
			want = api.OK
		}
		same(t, fmt.Sprint("a word of ", width), net.Sound(storing(0, m)), want)
		same(t, fmt.Sprint("a word of ", width, " behind"), net.Sound(storing(0, memory(1, 1, 1, 0, 0), m)), want)
	}
	for port := range api.MaxPorts {
		for _, change := range []func([]int) []int{
			func([]int) []int { return nil },
			func(l []int) []int { return l[1:] },
			func(l []int) []int { return append(slices.Clone(l), 0) },
		} {
			m := memory(3, 2, 1, api.MaxPorts, api.MaxPorts)
			m.Reads[port].Addr = change(m.Reads[port].Addr)
			same(t, "an address of reading", net.Sound(storing(8, m)), api.Width)
			m = memory(3, 2, 1, api.MaxPorts, api.MaxPorts)
			m.Writes[port].Addr = change(m.Writes[port].Addr)
			same(t, "an address of writing", net.Sound(storing(8, m)), api.Width)
			m = memory(3, 2, 1, api.MaxPorts, api.MaxPorts)
			m.Writes[port].Data = change(m.Writes[port].Data)
			same(t, "data of writing", net.Sound(storing(8, m)), api.Width)
		}
	}
}

// TestP501Init: a latch's start is 0, 1, or any, wherever the latch stands.
func TestP501Init(t *testing.T) {
	for _, start := range append(extremes(), 0, 1, 2, 3) {
		want := api.BadArg
		if start >= 0 && start <= 2 {
			want = api.OK
		}
		for place := range 3 {
			n := whole()
			n.Latches[place].Init = start
			same(t, fmt.Sprint("a latch that begins with ", start), net.Sound(n), want)
		}
	}
}

// defining: a netlist of three variables, whose definitions are those of the list, each of its kind (kinds stand in the order in which definitions come).
func defining(list []int, kinds string) api.Net {
	n := api.Net{Vars: 3}
	for i, v := range list {
		switch kinds[i] {
		case 'i':
			n.Inputs = append(n.Inputs, v)
		case 'l':
			n.Latches = append(n.Latches, api.Latch{Var: v})
		case 'r':
			if len(n.Mems) < 1 {
				n.Mems = append(n.Mems, memory(1, 1, 0, 0, 1))
			}
			n.Mems[0].Reads = append(n.Mems[0].Reads, api.Read{Var: v, Addr: []int{0}})
		case 'm':
			n.Mems = append(n.Mems, memory(1, 1, v, 1, 0))
		case 'a':
			n.Ands = append(n.Ands, api.And{Var: v})
		}
	}
	return n
}

// pass: what is told of definitions, one behind the other, of three variables.
func pass(list []int) api.Fault {
	for i, v := range list {
		if v < 1 || v > 3 {
			return api.Dangling
		}
		if slices.Contains(list[:i], v) {
			return api.Twice
		}
	}
	if len(list) < 3 {
		return api.Missing
	}
	return api.OK
}

// TestP501Definitions: each row of few definitions, of whichever kinds they are: the first one that is wrong is told.
func TestP501Definitions(t *testing.T) {
	rows := [][]int{{}}
	for i := 0; i < len(rows); i++ {
		if len(rows[i]) < 5 {
			for _, v := range []int{0, 1, 2, 3, 4} {
				rows = append(rows, append(slices.Clone(rows[i]), v))
			}
		}
	}
	for _, kinds := range []string{"iiiii", "lllll", "rrrrm", "mmmma", "aaaaa", "ilrma", "iilla", "ilaaa", "llrra", "irmaa"} {
		for _, row := range rows {
			n := defining(row, kinds)
			same(t, fmt.Sprint(kinds, " ", row), net.Sound(n), pass(row))
			sameList(t, "Defined", net.Defined(n), row)
		}
	}
}

// TestP501Data: data that go beyond the variables, or into others; at the ends of int, too.
func TestP501Data(t *testing.T) {
	for _, c := range []struct {
		vars, first, word int
		inputs            []int
		want              api.Fault
	}{
		{3, 1, 3, nil, api.OK},
		{3, 2, 2, []int{1}, api.OK},
		{3, 1, 2, []int{3}, api.OK},
		{3, 2, 3, []int{1}, api.Dangling},
		{3, 3, 2, []int{3}, api.Twice},
		{3, 3, 2, []int{1}, api.Dangling},
		{3, 1, 2, []int{2}, api.Twice},
		{3, 0, 3, nil, api.Dangling},
		{3, 0, 3, []int{1}, api.Dangling},
		{3, 4, 1, nil, api.Dangling},
		{3, -1, 4, nil, api.Dangling},
		{3, 1, 2, nil, api.Missing},
		{4, 1, 3, nil, api.Missing},
		{64, 1, 64, nil, api.OK},
		{64, 2, 64, nil, api.Dangling},
		{0, 1, 1, nil, api.Dangling},
		{2000, 1937, 64, run(1, 1936), api.OK},
		{2000, 1938, 64, run(1, 1937), api.Dangling},
		{2000, math.MaxInt, 64, nil, api.Dangling},
		{2000, math.MaxInt - 63, 64, nil, api.Dangling},
		{2000, math.MinInt, 64, nil, api.Dangling},
	} {
		n := storing(c.vars, memory(1, c.word, c.first, 1, 1))
		n.Inputs = c.inputs
		same(t, fmt.Sprint("data ", c), net.Sound(n), c.want)
	}
	// the second port's data, and another memory's
	same(t, "ports of the same data", net.Sound(storing(3, memory(1, 2, 1, 1, 0), memory(1, 2, 2, 1, 0))), api.Twice)
	same(t, "ports of data side by side", net.Sound(storing(5, memory(1, 2, 4, 1, 0), memory(1, 3, 1, 1, 0))), api.OK)
	same(t, "two ports of data side by side", net.Sound(storing(4, memory(1, 2, 1, 2, 0))), api.OK)
}

// TestP501Literals: each literal of a netlist may be each from 0 to twice Vars, and 1, and no other.
func TestP501Literals(t *testing.T) {
	n := whole()
	for place, literal := range literals(&n) {
		was := *literal
		for _, l := range append(extremes(), 0, 1, 2*n.Vars-1, 2*n.Vars, 2*n.Vars+1, 2*n.Vars+2, 2*n.Vars+3) {
			*literal = l
			want := api.Dangling
			if l >= 0 && l <= 2*n.Vars+1 {
				want = api.OK
			}
			same(t, fmt.Sprint("literal ", l, " at place ", place), net.Sound(n), want)
		}
		*literal = was
	}
	same(t, "none is left changed", net.Sound(n), api.OK)
	same(t, "no variables, literal 2", net.Sound(api.Net{Bads: []int{2}}), api.Dangling)
	same(t, "no variables, literal -1", net.Sound(api.Net{Bads: []int{-1}}), api.Dangling)
}

// TestP501First: of several faults the one that the chapter names first.
func TestP501First(t *testing.T) {
	type spoiling struct {
		fault api.Fault
		spoil func(n *api.Net)
	}
	all := []spoiling{
		{api.Limit, func(n *api.Net) { n.Bads = make([]int, api.MaxLits+1) }},
		{api.Width, func(n *api.Net) { n.Mems[1].Reads[0].Addr = nil }},
		{api.BadArg, func(n *api.Net) { n.Latches[2].Init = 3 }},
		{api.Dangling, func(n *api.Net) { n.Inputs[1] = 0 }},
		{api.Twice, func(n *api.Net) { n.Ands[0].Var = 2 }},
		{api.Missing, func(n *api.Net) { n.Vars++ }},
		{api.Dangling, func(n *api.Net) { n.Latches[0].Next = -1 }},
	}
	for set := range 1 << len(all) {
		n := whole()
		want := api.OK
		for i := range all {
			i = len(all) - 1 - i // so that the first one is told at last, and is laid over the others
			if set>>i&1 == 1 {
				all[i].spoil(&n)
				want = all[i].fault
			}
		}
		same(t, fmt.Sprintf("faults %07b", set), net.Sound(n), want)
	}
}

// TestP501Pass: Dangling and Twice of definitions are of one pass, whichever comes first.
func TestP501Pass(t *testing.T) {
	n := api.Net{Vars: 2, Inputs: []int{1, 1, 0}}
	same(t, "Twice ahead of Dangling", net.Sound(n), api.Twice)
	n.Inputs = []int{1, 0, 1}
	same(t, "Dangling ahead of Twice", net.Sound(n), api.Dangling)
	n = api.Net{Vars: 2, Inputs: []int{1, 1}, Ands: []api.And{{Var: 3}}}
	same(t, "Twice of an input, Dangling of an and", net.Sound(n), api.Twice)
	n = api.Net{Vars: 2, Latches: []api.Latch{{Var: 1}, {Var: 3}}, Ands: []api.And{{Var: 1}}}
	same(t, "Dangling of a latch, Twice of an and", net.Sound(n), api.Dangling)
	n = api.Net{Vars: 2, Inputs: []int{0, 0}}
	same(t, "Dangling, and there ahead", net.Sound(n), api.Dangling)
}

// TestP502Lists: of a netlist the lists, in the chapter's order.
func TestP502Lists(t *testing.T) {
	n := whole()
	sameList(t, "Defined", net.Defined(n), []int{3, 1, 2, 14, 4, 5, 6, 7, 10, 11, 12, 8, 13, 9})
	sameList(t, "Literals", net.Literals(n), []int{29, 5, 0, 28, 1, 6, 7, 1, 8, 2, 3, 26, 0, 4, 6, 9, 10, 11, 12, 1, 0, 1, 1, 0, 20, 17, 24, 5, 26, 27})
	sameList(t, "Data, the first port", net.Data(n.Mems[0], 0), []int{5, 6, 7})
	sameList(t, "Data, the second port", net.Data(n.Mems[0], 1), []int{10, 11, 12})
	sameList(t, "Data of the second memory", net.Data(n.Mems[1], 0), []int{8})
	sameList(t, "Defined of nothing", net.Defined(api.Net{}), nil)
	sameList(t, "Literals of nothing", net.Literals(api.Net{}), nil)
}

// TestP502Order: each literal stands at its place, each of another number, of whichever parts there are.
func TestP502Order(t *testing.T) {
	for parts := range 1 << 7 {
		n := whole()
		if parts&1 == 0 {
			n.Latches = nil
		}
		if parts&2 == 0 {
			n.Outputs = nil
		}
		if parts&4 == 0 {
			n.Bads = nil
		}
		if parts&8 == 0 {
			n.Constraints = nil
		}
		if parts&16 == 0 {
			n.Mems[0].Reads = nil
		}
		if parts&32 == 0 {
			n.Mems[0].Writes = nil
		}
		if parts&64 == 0 {
			n.Ands = nil
		}
		places := literals(&n)
		for i, place := range places {
			*place = 100 + i
		}
		sameList(t, fmt.Sprintf("Literals, parts %07b", parts), net.Literals(n), run(100, len(places)))
	}
}

// TestP502None: data of ports that there are not: none.
func TestP502None(t *testing.T) {
	for _, port := range append(extremes(), 2, 3) {
		sameList(t, fmt.Sprint("Data of port ", port), net.Data(whole().Mems[0], port), nil)
		sameList(t, fmt.Sprint("Data of no memory's port ", port), net.Data(api.Memory{}, port), nil)
	}
	sameList(t, "Data of a port of a memory without any", net.Data(memory(1, 1, 1, 0, 1), 0), nil)
}

// TestP502Counts: Words, Ports, Bits of netlists that are sound.
func TestP502Counts(t *testing.T) {
	full := api.Net{Vars: 1024}
	for i := range api.MaxMems {
		full.Mems = append(full.Mems, memory(api.MaxAddr, api.MaxWord, 1+i*4*64, api.MaxPorts, api.MaxPorts))
	}
	for _, c := range []struct {
		what               string
		n                  api.Net
		words, ports, bits int
	}{
		{"nothing", api.Net{}, 0, 0, 0},
		{"the whole", whole(), 7, 5, 3 + 12 + 2},
		{"inputs and ands alone", api.Net{Vars: 4, Inputs: []int{1, 2}, Ands: ands(3, 2)}, 0, 0, 0},
		{"latches alone", api.Net{Vars: 7, Latches: latches(1, 7)}, 0, 0, 7},
		{"a memory without ports", storing(0, memory(4, 5, 1, 0, 0)), 0, 0, 80},
		{"a port of reading", storing(5, memory(4, 5, 1, 1, 0)), 5, 1, 80},
		{"a port of writing", storing(0, memory(4, 5, 1, 0, 1)), 0, 1, 80},
		{"two memories", storing(13, memory(2, 2, 1, 2, 3), memory(1, 3, 5, 3, 1)), 13, 9, 8 + 6},
		{"as many as may be", full, 1024, 32, 1000},
	} {
		same(t, c.what, net.Sound(c.n), api.OK)
		same(t, "Words of "+c.what, net.Words(c.n), c.words)
		same(t, "Ports of "+c.what, net.Ports(c.n), c.ports)
		same(t, "Bits of "+c.what, net.Bits(c.n), c.bits)
	}
}

// TestP502Bits: up to 1000, of whichever parts, and not beyond.
func TestP502Bits(t *testing.T) {
	for _, count := range []int{0, 1, 998, 999, 1000, 1001, 1999, 2000} {
		same(t, fmt.Sprint(count, " latches"), net.Bits(api.Net{Vars: count, Latches: latches(1, count)}), min(count, 1000))
	}
	for addr := 1; addr <= api.MaxAddr; addr++ {
		for word := 1; word <= api.MaxWord; word++ {
			want := 1000
			if addr <= 9 {
				want = min(word<<addr, 1000)
			}
			same(t, fmt.Sprint("a memory of ", addr, " and ", word), net.Bits(storing(0, memory(addr, word, 1, 0, 0))), want)
		}
	}
	for _, c := range []struct {
		latches int
		widths  [][2]int
		want    int
	}{
		{487, [][2]int{{9, 1}}, 999},
		{488, [][2]int{{9, 1}}, 1000},
		{489, [][2]int{{9, 1}}, 1000},
		{0, [][2]int{{8, 1}, {8, 1}, {8, 1}, {1, 64}}, 896},
		{103, [][2]int{{8, 1}, {8, 1}, {8, 1}, {1, 64}}, 999},
		{104, [][2]int{{8, 1}, {8, 1}, {8, 1}, {1, 64}}, 1000},
		{0, [][2]int{{9, 1}, {9, 1}}, 1000},
		{1, [][2]int{{62, 64}}, 1000},
		{2000, [][2]int{{62, 64}, {62, 64}, {62, 64}, {62, 64}}, 1000},
		{999, [][2]int{{1, 1}}, 1000},
		{997, [][2]int{{1, 1}}, 999},
	} {
		n := api.Net{Vars: c.latches, Latches: latches(1, c.latches)}
		for _, w := range c.widths {
			n.Mems = append(n.Mems, memory(w[0], w[1], 1, 0, 0))
		}
		same(t, fmt.Sprint("latches ", c.latches, ", memories ", c.widths), net.Bits(n), c.want)
	}
}

// TestP502BitsOthers: of a netlist that is not sound, and has no memories, how many latches there are.
func TestP502BitsOthers(t *testing.T) {
	for _, count := range []int{0, 1, 3, 999} {
		for _, number := range extremes() {
			n := api.Net{Vars: number, Inputs: []int{number}, Latches: latches(number-count, count), Bads: []int{number}, Ands: []api.And{{Var: number, A: number}}}
			same(t, fmt.Sprint(count, " latches about ", number), net.Bits(n), count)
		}
	}
	same(t, "latches that begin with what is none", net.Bits(api.Net{Latches: []api.Latch{{Init: 3}, {Init: -1}}}), 2)
}

// changes: each changes one thing of the whole; no two of them do the same.
func changes() map[string]func(n *api.Net) {
	list := map[string]func(n *api.Net){
		"a truth":               func(n *api.Net) { n.Mems[0].Any = false },
		"a truth of the second": func(n *api.Net) { n.Mems[1].Any = true },
		"an input less":         func(n *api.Net) { n.Inputs = n.Inputs[:1] },
		"no inputs":             func(n *api.Net) { n.Inputs = nil },
		"an input more":         func(n *api.Net) { n.Inputs = append(n.Inputs, 1) },
		"inputs in turn":        func(n *api.Net) { slices.Reverse(n.Inputs) },
		"a latch less":          func(n *api.Net) { n.Latches = n.Latches[1:] },
		"a latch more":          func(n *api.Net) { n.Latches = append(n.Latches, api.Latch{}) },
		"latches in turn":       func(n *api.Net) { slices.Reverse(n.Latches) },
		"an output less":        func(n *api.Net) { n.Outputs = n.Outputs[:1] },
		"an output more":        func(n *api.Net) { n.Outputs = append(n.Outputs, 0) },
		"a bad less":            func(n *api.Net) { n.Bads = n.Bads[1:] },
		"a bad more":            func(n *api.Net) { n.Bads = append(n.Bads, 0) },
		"a constraint less":     func(n *api.Net) { n.Constraints = nil },
		"a constraint more":     func(n *api.Net) { n.Constraints = append(n.Constraints, 0) },
		"a memory less":         func(n *api.Net) { n.Mems = n.Mems[:1] },
		"a memory more":         func(n *api.Net) { n.Mems = append(n.Mems, api.Memory{}) },
		"memories in turn":      func(n *api.Net) { slices.Reverse(n.Mems) },
		"a read less":           func(n *api.Net) { n.Mems[0].Reads = n.Mems[0].Reads[:1] },
		"a read more":           func(n *api.Net) { n.Mems[1].Reads = append(n.Mems[1].Reads, api.Read{}) },
		"reads in turn":         func(n *api.Net) { slices.Reverse(n.Mems[0].Reads) },
		"a read's address less": func(n *api.Net) { n.Mems[0].Reads[1].Addr = n.Mems[0].Reads[1].Addr[:1] },
		"a read's address more": func(n *api.Net) { n.Mems[1].Reads[0].Addr = append(n.Mems[1].Reads[0].Addr, 0) },
		"a write less":          func(n *api.Net) { n.Mems[0].Writes = n.Mems[0].Writes[1:] },
		"a write more":          func(n *api.Net) { n.Mems[1].Writes = append(n.Mems[1].Writes, api.Write{}) },
		"writes in turn":        func(n *api.Net) { slices.Reverse(n.Mems[0].Writes) },
		"a write's address":     func(n *api.Net) { n.Mems[0].Writes[0].Addr = n.Mems[0].Writes[0].Addr[:1] },
		"a write's data":        func(n *api.Net) { n.Mems[0].Writes[1].Data = append(n.Mems[0].Writes[1].Data, 0) },
		"an and less":           func(n *api.Net) { n.Ands = n.Ands[:1] },
		"an and more":           func(n *api.Net) { n.Ands = append(n.Ands, api.And{}) },
		"ands in turn":          func(n *api.Net) { slices.Reverse(n.Ands) },
		"nothing is left":       func(n *api.Net) { *n = api.Net{} },
	}
	all := whole()
	for i := range numbers(&all) {
		list[fmt.Sprint("number ", i)] = func(n *api.Net) { *numbers(n)[i] += 1000 }
	}
	return list
}

// TestP503Same: alike in all; whatever is changed, it is not.
func TestP503Same(t *testing.T) {
	same(t, "the whole and the whole", net.Same(whole(), whole()), true)
	same(t, "nothing and nothing", net.Same(api.Net{}, api.Net{}), true)
	for what, change := range changes() {
		n, again := whole(), whole()
		change(&n)
		same(t, what, net.Same(n, whole()), false)
		same(t, what+", the other way", net.Same(whole(), n), false)
		same(t, what+", and itself", net.Same(n, n), true)
		change(&again)
		same(t, what+", of both", net.Same(n, again), true)
	}
}

// TestP503Empty: a list without an element is like nil, in every place.
func TestP503Empty(t *testing.T) {
	none := api.Net{Vars: 1, Mems: []api.Memory{{Reads: []api.Read{{}}, Writes: []api.Write{{}}}, {}}}
	empty := api.Net{Vars: 1, Inputs: []int{}, Latches: []api.Latch{}, Outputs: []int{}, Bads: []int{}, Constraints: []int{}, Ands: []api.And{},
		Mems: []api.Memory{{Reads: []api.Read{{Addr: []int{}}}, Writes: []api.Write{{Addr: []int{}, Data: []int{}}}}, {Reads: []api.Read{}, Writes: []api.Write{}}}}
	same(t, "nil and empty", net.Same(none, empty), true)
	same(t, "empty and nil", net.Same(empty, none), true)
	same(t, "no memories", net.Same(api.Net{Mems: []api.Memory{}}, api.Net{}), true)
	same(t, "Clone of nil", net.Same(net.Clone(none), empty), true)
	same(t, "Clone of empty", net.Same(net.Clone(empty), none), true)
}

// TestP503Clone: the same, of whatever netlist, sound or not.
func TestP503Clone(t *testing.T) {
	for what, change := range changes() {
		n := whole()
		change(&n)
		if c := net.Clone(n); !reflect.DeepEqual(c, n) {
			t.Errorf("Clone, %s: %v, not %v", what, c, n)
		}
	}
}

// spoil: writes to everything of a netlist, and into its lists' spare room.
func spoil(n api.Net) {
	lists := [][]int{n.Inputs, n.Outputs, n.Bads, n.Constraints}
	for _, m := range n.Mems[:cap(n.Mems)] {
		for i := range m.Reads[:cap(m.Reads)] {
			lists = append(lists, m.Reads[:cap(m.Reads)][i].Addr)
		}
		for i := range m.Writes[:cap(m.Writes)] {
			lists = append(lists, m.Writes[:cap(m.Writes)][i].Addr, m.Writes[:cap(m.Writes)][i].Data)
		}
	}
	for _, list := range lists {
		fill(list, -77)
	}
	for _, m := range n.Mems[:cap(n.Mems)] {
		fill(m.Reads, api.Read{Var: -77})
		fill(m.Writes, api.Write{On: -77})
	}
	fill(n.Latches, api.Latch{Var: -77, Next: -77, Init: -77})
	fill(n.Ands, api.And{Var: -77, A: -77, B: -77})
	fill(n.Mems, api.Memory{Addr: -77, Word: -77})
}

// fill: x at each place of a list, and of its spare room.
func fill[T any](list []T, x T) {
	list = list[:cap(list)]
	for i := range list {
		list[i] = x
	}
}

// TestP503Apart: what is done to a netlist isn't done to its clone, and the other way round.
func TestP503Apart(t *testing.T) {
	n := whole()
	c := net.Clone(n)
	spoil(c)
	same(t, "the netlist, its clone spoilt", reflect.DeepEqual(n, whole()), true)
	c = net.Clone(n)
	spoil(n)
	same(t, "the clone, the netlist spoilt", reflect.DeepEqual(c, whole()), true)
	again := net.Clone(c)
	for i, number := range numbers(&again) {
		*number = 1000 + i
	}
	for i, number := range numbers(&again) {
		same(t, "a number of a clone, each written alone", *number, 1000+i)
	}
	same(t, "what was cloned", reflect.DeepEqual(c, whole()), true)
}

// roomy: a netlist whose lists of numbers all stand in one array, each with its spare room behind it; and that array.
func roomy() (api.Net, []int) {
	n := whole()
	array := make([]int, 0, 1000)
	move := func(list *[]int) {
		from := len(array)
		array = append(array, *list...)
		to := len(array)
		array = append(array, -1, -2, -3)
		*list = array[from:to]
	}
	for _, list := range []*[]int{&n.Inputs, &n.Outputs, &n.Bads, &n.Constraints} {
		move(list)
	}
	for _, m := range n.Mems {
		for i := range m.Reads {
			move(&m.Reads[i].Addr)
		}
		for i := range m.Writes {
			move(&m.Writes[i].Addr)
			move(&m.Writes[i].Data)
		}
	}
	return n, array
}

// TestKept: what is handed in stays as it was, its spare room too; what is handed out is new.
func TestKept(t *testing.T) {
	n, array := roomy()
	was := slices.Clone(array)
	net.Sound(n)
	net.Words(n)
	net.Ports(n)
	net.Bits(n)
	net.Same(n, n)
	spoil(net.Clone(n))
	defined, list, data := net.Defined(n), net.Literals(n), net.Data(n.Mems[0], 0)
	fill(defined, 0)
	fill(list, 0)
	fill(data, 0)
	sameList(t, "the lists", array, was)
	same(t, "the netlist", reflect.DeepEqual(n, whole()), true)
	only := api.Net{Inputs: array[:2]}
	fill(net.Defined(only), 0)
	fill(net.Literals(api.Net{Bads: array[:2]}), 0)
	sameList(t, "the lists, of one list alone", array, was)
}

// every: each call of a netlist and of its memories; none may panic, all must end.
func every(n api.Net) {
	net.Sound(n)
	net.Words(n)
	net.Literals(n)
	net.Defined(n)
	net.Ports(n)
	net.Bits(n)
	net.Same(n, net.Clone(n))
	for _, m := range n.Mems {
		for port := range m.Reads {
			net.Data(m, port)
		}
		net.Data(m, -1)
		net.Data(m, len(m.Reads))
	}
}

// TestStrange: of netlists with whatever numbers each call ends, and none panics; their clones are the same.
func TestStrange(t *testing.T) {
	n := whole()
	for i, first := range numbers(&n) {
		was := *first
		for _, number := range extremes() {
			*first = number
			every(n)
			same(t, "a clone", net.Same(n, net.Clone(n)), true)
			second := numbers(&n)[(i*7+3)%len(numbers(&n))]
			other := *second
			for _, number := range extremes() {
				*second = number
				every(n)
			}
			*second = other
		}
		*first = was
	}
	for _, number := range extremes() {
		for _, other := range extremes() {
			for _, place := range numbers(&n) {
				*place = number
			}
			for i := range n.Mems {
				n.Mems[i].Word = other
			}
			every(n)
		}
	}
	many := api.Net{Mems: make([]api.Memory, 3000)}
	for i := range many.Mems {
		many.Mems[i] = api.Memory{Addr: math.MaxInt, Word: math.MaxInt, Reads: []api.Read{{Var: math.MaxInt - 30}, {Var: 1}, {Var: math.MinInt}}}
	}
	every(many)
	same(t, "many memories", net.Sound(many), api.Limit)
}

// TestExample: the chapter's.
func TestExample(t *testing.T) {
	n := api.Net{Vars: 1, Inputs: []int{1}}
	same(t, "one input", net.Sound(n), api.OK)
	n.Vars = 2
	same(t, "with Vars 2", net.Sound(n), api.Missing)
}
