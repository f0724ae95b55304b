package topo_test

import (
	"fmt"
	"math"
	"reflect"
	"slices"
	"testing"

	"astrarium/api"
	"astrarium/net"
	"astrarium/topo"
)

func same[T comparable](t *testing.T, what string, got, want T) {
	t.Helper()
	if got != want {
		t.Errorf("%s: %v, not %v", what, got, want)
	}
}

// sameList: alike, element by element; an empty list is like nil.
func sameList[T comparable](t *testing.T, what string, got, want []T) {
	t.Helper()
	if !slices.Equal(got, want) {
		t.Errorf("%s: %v, not %v", what, got, want)
	}
}

// whole: a netlist that is right, and has some of everything; its nodes stand in none of the orders that they have by levels.
func whole() api.Net {
	return api.Net{
		Vars:        14,
		Inputs:      []int{3, 1},
		Latches:     []api.Latch{{Var: 2, Next: 29}, {Var: 14, Next: 5, Init: 1}, {Var: 4, Next: 27, Init: api.Any}},
		Outputs:     []int{28, 1},
		Bads:        []int{6, 7},
		Constraints: []int{1, 8},
		Mems: []api.Memory{
			{Addr: 2, Word: 3, Any: true,
				Reads:  []api.Read{{Var: 5, Addr: []int{17, 3}}, {Var: 10, Addr: []int{28, 0}}},
				Writes: []api.Write{{On: 26, Addr: []int{6, 9}, Data: []int{10, 11, 12}}, {On: 1, Addr: []int{0, 1}, Data: []int{1, 0, 20}}}},
			{Addr: 1, Word: 1, Reads: []api.Read{{Var: 8, Addr: []int{5}}}},
		},
		Ands: []api.And{{Var: 13, A: 18, B: 11}, {Var: 9, A: 2, B: 29}},
	}
}

// chain: ands, each of the one ahead (or of the one behind, if they are turned) and of the constant.
func chain(count int, turned bool) api.Net {
	n := api.Net{Vars: count}
	for v := 1; v <= count; v++ {
		other := v - 1
		if turned {
			other = (v + 1) % (count + 1)
		}
		n.Ands = append(n.Ands, api.And{Var: v, A: 2 * other, B: 1})
	}
	return n
}

// ladder: ands, each of the one ahead, twice.
func ladder(count int) api.Net {
	n := api.Net{Vars: count + 1, Inputs: []int{1}}
	for v := 2; v <= count+1; v++ {
		n.Ands = append(n.Ands, api.And{Var: v, A: 2*v - 2, B: 2*v - 1})
	}
	return n
}

// chance: numbers that look like chance, the same in each run.
type chance uint64

func (c *chance) below(n int) int {
	*c = *c*6364136223846793005 + 1442695040888963407
	return int(uint64(*c) >> 33 % uint64(n))
}

// drawn: a netlist that is sound, of few variables of all kinds in any order; its values may hang on themselves.
func drawn(c *chance) api.Net {
	n := api.Net{}
	next := func() int {
		n.Vars++
		return n.Vars
	}
	for range c.below(3) {
		n.Inputs = append(n.Inputs, next())
	}
	for range c.below(3) {
		n.Latches = append(n.Latches, api.Latch{Var: next()})
	}
	for range c.below(3) {
		m := api.Memory{Addr: 1 + c.below(2), Word: 1 + c.below(3)}
		for range c.below(3) {
			m.Reads = append(m.Reads, api.Read{Var: n.Vars + 1, Addr: make([]int, m.Addr)})
			n.Vars += m.Word
		}
		for range c.below(2) {
			m.Writes = append(m.Writes, api.Write{Addr: make([]int, m.Addr), Data: make([]int, m.Word)})
		}
		n.Mems = append(n.Mems, m)
	}
	for range c.below(6) {
		n.Ands = append(n.Ands, api.And{Var: next()})
	}
	n.Bads = make([]int, 2)
	// few literals of nodes but 0 and 1, so that half of all netlists are right
	any := func() int {
		if c.below(3) == 0 {
			return c.below(2)
		}
		return c.below(2*n.Vars + 2)
	}
	for i := range n.Latches {
		n.Latches[i].Next = any()
	}
	for i := range n.Bads {
		n.Bads[i] = any()
	}
	for _, m := range n.Mems {
		for i := range m.Reads {
			for j := range m.Reads[i].Addr {
				m.Reads[i].Addr[j] = any()
			}
		}
		for i := range m.Writes {
			m.Writes[i].On = any()
			for j := range m.Writes[i].Data {
				m.Writes[i].Data[j] = any()
			}
		}
	}
	for i := range n.Ands {
		n.Ands[i].A, n.Ands[i].B = any(), any()
	}
	if c.below(2) == 0 {
		slices.Reverse(n.Ands)
	}
	return n
}

// hangs: of each variable on which ones it hangs at once; of the others nil.
func hangs(n api.Net) [][]int {
	list := make([][]int, n.Vars+1)
	for _, a := range n.Ands {
		list[a.Var] = []int{a.A / 2, a.B / 2}
	}
	for _, m := range n.Mems {
		for _, r := range m.Reads {
			for i := range m.Word {
				for _, l := range r.Addr {
					list[r.Var+i] = append(list[r.Var+i], l/2)
				}
			}
		}
	}
	return list
}

// levels: told round by round, as long as some can be told; false, if some are left over.
func levels(n api.Net) ([]int, bool) {
	on := hangs(n)
	list := make([]int, n.Vars+1)
	for v := range list {
		if len(on[v]) > 0 {
			list[v] = -1
		}
	}
	for range list {
		for v := range list {
			greatest := -1
			for _, o := range on[v] {
				if list[o] < 0 {
					greatest = -1
					break
				}
				greatest = max(greatest, list[o])
			}
			if greatest >= 0 {
				list[v] = greatest + 1
			}
		}
	}
	return list, !slices.Contains(list, -1)
}

// order: the nodes, picked level by level.
func order(n api.Net, levels []int) []topo.Node {
	var list []topo.Node
	for level := range n.Vars + 1 {
		for i, a := range n.Ands {
			if levels[a.Var] == level {
				list = append(list, topo.Node{At: i})
			}
		}
		for i, m := range n.Mems {
			for j, r := range m.Reads {
				if levels[r.Var] == level {
					list = append(list, topo.Node{Read: true, Mem: i, At: j})
				}
			}
		}
	}
	return list
}

// support: what is marked round by round.
func support(n api.Net, l []int) []int {
	on := hangs(n)
	marked := make([]bool, n.Vars+1)
	for _, literal := range l {
		if literal >= 2 && literal <= 2*n.Vars+1 {
			marked[literal/2] = true
		}
	}
	for range marked {
		for v, is := range marked {
			for _, o := range on[v] {
				marked[o] = marked[o] || is
			}
		}
	}
	var list []int
	for v, is := range marked {
		if is && v > 0 {
			list = append(list, v)
		}
	}
	return list
}

// circles: netlists that are sound, whose values hang on themselves.
func circles() map[string]api.Net {
	reading := func(addr ...int) api.Net {
		return api.Net{Vars: 2, Mems: []api.Memory{{Addr: len(addr), Word: 2, Reads: []api.Read{{Var: 1, Addr: addr}}}}}
	}
	long := chain(api.MaxVars, false)
	long.Ands[0].B = 2*api.MaxVars + 1
	return map[string]api.Net{
		"an and of itself":            {Vars: 1, Ands: []api.And{{Var: 1, A: 2, B: 2}}},
		"of its negation":             {Vars: 1, Ands: []api.And{{Var: 1, A: 3, B: 1}}},
		"by its second literal":       {Vars: 1, Ands: []api.And{{Var: 1, A: 0, B: 2}}},
		"two ands":                    {Vars: 2, Ands: []api.And{{Var: 1, A: 0, B: 4}, {Var: 2, A: 3, B: 1}}},
		"whatever the constant makes": {Vars: 2, Inputs: []int{1}, Ands: []api.And{{Var: 2, A: 0, B: 5}}},
		"behind what is right":        {Vars: 3, Inputs: []int{1}, Ands: []api.And{{Var: 2, A: 2, B: 3}, {Var: 3, A: 4, B: 6}}},
		"that nothing asks for":       {Vars: 2, Inputs: []int{1}, Bads: []int{2}, Ands: []api.And{{Var: 2, A: 4, B: 2}}},
		"as long as may be":           long,
		"a read of its own datum":     reading(2),
		"of its last datum":           reading(0, 1, 5),
		"of its datum, far up":        reading(append(make([]int, 61), 4)...),
		"a read and an and": {Vars: 2, Mems: []api.Memory{{Addr: 1, Word: 1, Reads: []api.Read{{Var: 1, Addr: []int{5}}}}},
			Ands: []api.And{{Var: 2, A: 1, B: 2}}},
		"two ports": {Vars: 2, Mems: []api.Memory{{Addr: 1, Word: 1, Reads: []api.Read{{Var: 1, Addr: []int{4}}, {Var: 2, Addr: []int{2}}}}}},
		"two memories": {Vars: 2, Mems: []api.Memory{{Addr: 1, Word: 1, Reads: []api.Read{{Var: 1, Addr: []int{4}}}},
			{Addr: 1, Word: 1, Reads: []api.Read{{Var: 2, Addr: []int{2}}}}}},
	}
}

// unsound: one for each of net's faults; each of them has values that hang on themselves, too.
func unsound() map[api.Fault]api.Net {
	circle := func() api.Net { return circles()["two ands"] }
	limit, width, start, dangling, twice, missing := circle(), circle(), circle(), circle(), circle(), circle()
	limit.Vars = api.MaxVars + 1
	width.Mems = []api.Memory{{Addr: 0, Word: 1}}
	start.Latches = []api.Latch{{Var: 3, Init: 3}}
	dangling.Bads = []int{6}
	twice.Inputs = []int{1}
	missing.Vars = 3
	return map[api.Fault]api.Net{api.Limit: limit, api.Width: width, api.BadArg: start, api.Dangling: dangling, api.Twice: twice, api.Missing: missing}
}

// right: netlists that are right, near to what isn't.
func right() map[string]api.Net {
	return map[string]api.Net{
		"nothing":       {},
		"empty lists":   {Inputs: []int{}, Latches: []api.Latch{}, Mems: []api.Memory{}, Ands: []api.And{}},
		"one input":     {Vars: 1, Inputs: []int{1}},
		"the whole":     whole(),
		"of constants":  {Vars: 1, Ands: []api.And{{Var: 1, A: 0, B: 1}}},
		"a latch of it": {Vars: 1, Latches: []api.Latch{{Var: 1, Next: 3}}},
		"a latch of an and of it": {Vars: 2, Latches: []api.Latch{{Var: 1, Next: 4}},
			Ands: []api.And{{Var: 2, A: 2, B: 3}}},
		"what a read tells is written": {Vars: 1, Mems: []api.Memory{{Addr: 1, Word: 1, Reads: []api.Read{{Var: 1, Addr: []int{0}}},
			Writes: []api.Write{{On: 2, Addr: []int{3}, Data: []int{2}}}}}},
		"a read of another's datum": {Vars: 2, Mems: []api.Memory{{Addr: 1, Word: 1, Reads: []api.Read{{Var: 1, Addr: []int{4}}, {Var: 2, Addr: []int{0}}}}}},
		"a chain":                   chain(api.MaxVars, false),
		"a chain, turned":           chain(api.MaxVars, true),
		"a ladder":                  ladder(api.MaxVars - 1),
	}
}

// TestP601Check: net's fault, Cycle, or OK.
func TestP601Check(t *testing.T) {
	for what, n := range right() {
		same(t, what, topo.Check(n), api.OK)
	}
	for what, n := range circles() {
		same(t, what+": sound", net.Sound(n), api.OK)
		same(t, what, topo.Check(n), api.Cycle)
	}
	for fault, n := range unsound() {
		same(t, "unsound", topo.Check(n), fault)
	}
	last := whole()
	last.Ands[1].B = -1
	same(t, "a literal below 0", topo.Check(last), api.Dangling)
}

// TestP602Levels: of each variable, of all kinds.
func TestP602Levels(t *testing.T) {
	for _, c := range []struct {
		what string
		n    api.Net
		want []int
	}{
		{"nothing", api.Net{}, []int{0}},
		{"inputs and latches", api.Net{Vars: 3, Inputs: []int{2}, Latches: []api.Latch{{Var: 3, Next: 2}, {Var: 1, Next: 3}}}, []int{0, 0, 0, 0}},
		{"an and of constants", api.Net{Vars: 1, Ands: []api.And{{Var: 1, A: 1, B: 1}}}, []int{0, 1}},
		{"the greater of two", api.Net{Vars: 4, Inputs: []int{1}, Ands: []api.And{{Var: 4, A: 2, B: 7}, {Var: 3, A: 5, B: 2}, {Var: 2, A: 2, B: 0}}}, []int{0, 0, 1, 2, 3}},
		{"a read of constants", api.Net{Vars: 2, Mems: []api.Memory{{Addr: 2, Word: 2, Reads: []api.Read{{Var: 1, Addr: []int{0, 1}}}}}}, []int{0, 1, 1}},
		{"the greatest of an address", api.Net{Vars: 5, Mems: []api.Memory{{Addr: 3, Word: 2, Reads: []api.Read{{Var: 1, Addr: []int{6, 11, 1}}}}},
			Ands: []api.And{{Var: 3, A: 0, B: 0}, {Var: 4, A: 6, B: 0}, {Var: 5, A: 0, B: 9}}}, []int{0, 4, 4, 1, 2, 3}},
		{"the whole", whole(), []int{0, 0, 0, 0, 0, 2, 2, 2, 1, 1, 1, 1, 1, 3, 0}},
	} {
		got, ok := topo.Levels(c.n)
		same(t, c.what, ok, true)
		sameList(t, c.what, got, c.want)
	}
}

// TestP602Order: all nodes by levels; of one level ands, then ports, by their places.
func TestP602Order(t *testing.T) {
	for _, c := range []struct {
		what string
		n    api.Net
		want []topo.Node
	}{
		{"nothing", api.Net{}, nil},
		{"no nodes", api.Net{Vars: 2, Inputs: []int{1}, Latches: []api.Latch{{Var: 2}}}, nil},
		{"a port of no reading", api.Net{Mems: []api.Memory{{Addr: 1, Word: 1, Writes: []api.Write{{Addr: []int{0}, Data: []int{0}}}}}}, nil},
		{"ands of one level", api.Net{Vars: 3, Ands: []api.And{{Var: 2}, {Var: 3}, {Var: 1}}}, []topo.Node{{At: 0}, {At: 1}, {At: 2}}},
		{"the whole", whole(), []topo.Node{{At: 1}, {Read: true, Mem: 0, At: 1}, {Read: true, Mem: 1, At: 0}, {Read: true, Mem: 0, At: 0}, {At: 0}}},
	} {
		got, ok := topo.Order(c.n)
		same(t, c.what, ok, true)
		sameList(t, c.what, got, c.want)
	}
	var want []topo.Node
	for i := range api.MaxVars {
		want = append(want, topo.Node{At: api.MaxVars - 1 - i})
	}
	got, ok := topo.Order(chain(api.MaxVars, true))
	same(t, "a chain, turned", ok, true)
	sameList(t, "a chain, turned", got, want)
}

// TestP602Ports: of one level ports stand by memory and place, whatever their variables.
func TestP602Ports(t *testing.T) {
	n := api.Net{Vars: 33}
	want := []topo.Node{{At: 0}}
	for i := range api.MaxMems {
		m := api.Memory{Addr: 1, Word: 2}
		for j := range api.MaxPorts {
			m.Reads = append(m.Reads, api.Read{Var: 31 - 2*(4*i+j), Addr: []int{1}})
			want = append(want, topo.Node{Read: true, Mem: i, At: j})
		}
		n.Mems = append(n.Mems, m)
	}
	n.Ands = []api.And{{Var: 33}}
	got, ok := topo.Order(n)
	same(t, "ports of one level", ok, true)
	sameList(t, "ports of one level", got, want)
	n.Mems[0].Reads[0].Addr[0] = 66
	got, _ = topo.Order(n)
	sameList(t, "the first port a level up", got, append(append(want[:1:1], want[2:]...), want[1]))
}

// refused: netlists that aren't right.
func refused() []api.Net {
	var list []api.Net
	for _, n := range circles() {
		list = append(list, n)
	}
	for _, n := range unsound() {
		list = append(list, n)
	}
	return list
}

// TestRefused: of netlists that aren't right false, and none.
func TestRefused(t *testing.T) {
	for _, n := range refused() {
		l, ok := topo.Levels(n)
		same(t, "Levels", ok, false)
		sameList(t, "Levels", l, nil)
		o, ok := topo.Order(n)
		same(t, "Order", ok, false)
		sameList(t, "Order", o, nil)
		for v := range 4 {
			sameList(t, "Support", topo.Support(n, []int{2 * v}), nil)
		}
	}
}

// TestP603Support: what hangs on what, rising, each once.
func TestP603Support(t *testing.T) {
	for _, c := range []struct {
		what string
		l    []int
		want []int
	}{
		{"no literals", nil, nil},
		{"constants", []int{0, 1}, nil},
		{"an input", []int{2}, []int{1}},
		{"its negation", []int{3}, []int{1}},
		{"a latch, not what comes next", []int{4}, []int{2}},
		{"twice", []int{29, 3, 28, 2}, []int{1, 14}},
		{"falling", []int{28, 6, 4, 2}, []int{1, 2, 3, 14}},
		{"an and", []int{19}, []int{1, 9, 14}},
		{"a datum, its port's others not", []int{12}, []int{1, 2, 6, 8}},
		{"all data", []int{10, 12, 14}, []int{1, 2, 5, 6, 7, 8}},
		{"a datum of an address with a constant", []int{22}, []int{11, 14}},
		{"what is far up", []int{26}, []int{1, 2, 5, 8, 9, 13, 14}},
		{"literals of no variables", []int{-1, -2, -3, 30, 31, 4001, math.MinInt, math.MaxInt}, nil},
		{"and of some", []int{-2, 19, 30, 0}, []int{1, 9, 14}},
	} {
		sameList(t, c.what, topo.Support(whole(), c.l), c.want)
	}
	sameList(t, "nothing", topo.Support(api.Net{}, []int{0, 1, 2, 3}), nil)
	all := make([]int, api.MaxVars)
	for i := range all {
		all[i] = i + 1
	}
	sameList(t, "a chain", topo.Support(chain(api.MaxVars, false), []int{2 * api.MaxVars}), all)
	sameList(t, "a chain, its half", topo.Support(chain(api.MaxVars, false), []int{1000, 7}), all[:500])
	sameList(t, "a ladder", topo.Support(ladder(api.MaxVars-1), []int{2 * api.MaxVars}), all)
}

// TestDrawn: as the words say, of many netlists.
func TestDrawn(t *testing.T) {
	c := chance(1)
	count := 0
	for round := range 4000 {
		n := drawn(&c)
		same(t, "sound", net.Sound(n), api.OK)
		want, right := levels(n)
		got, ok := topo.Levels(n)
		same(t, "Levels", ok, right)
		nodes, ok := topo.Order(n)
		same(t, "Order", ok, right)
		l := []int{c.below(2*n.Vars + 4), c.below(2*n.Vars+4) - 2}
		if !right {
			same(t, "Check", topo.Check(n), api.Cycle)
			sameList(t, "Levels", got, nil)
			sameList(t, "Order", nodes, nil)
			sameList(t, "Support", topo.Support(n, l), nil)
			continue
		}
		count++
		what := fmt.Sprint("round ", round, ": ", n)
		same(t, what, topo.Check(n), api.OK)
		sameList(t, what, got, want)
		sameList(t, what, nodes, order(n, want))
		sameList(t, what, topo.Support(n, l), support(n, l))
	}
	if count < 1000 || count > 3000 {
		t.Errorf("%d netlists of 4000 are right", count)
	}
}

// TestKept: what is handed in stays as it was, spare room too; what is handed out is new.
func TestKept(t *testing.T) {
	n := whole()
	array := []int{26, 12, 26, -1, -2, -3}
	topo.Check(n)
	for range 2 {
		l, _ := topo.Levels(n)
		sameList(t, "Levels", l, []int{0, 0, 0, 0, 0, 2, 2, 2, 1, 1, 1, 1, 1, 3, 0})
		clear(l)
		o, _ := topo.Order(n)
		sameList(t, "Order", o[:1], []topo.Node{{At: 1}})
		clear(o)
		s := topo.Support(n, array[:3])
		sameList(t, "Support", s, []int{1, 2, 5, 6, 8, 9, 13, 14})
		clear(s)
	}
	s := topo.Support(api.Net{Vars: 3, Inputs: []int{1, 2, 3}}, array[3:3:6])
	_ = append(s, 7)
	sameList(t, "the literals", array, []int{26, 12, 26, -1, -2, -3})
	same(t, "the netlist", reflect.DeepEqual(n, whole()), true)
}

// TestStrange: whatever numbers a netlist has, each call ends, and none panics.
func TestStrange(t *testing.T) {
	strange := []int{math.MinInt, math.MinInt + 1, -1 << 61, -2, -1, 0, 15, 30, 65, 2001, 4002, 1 << 31, 1 << 61, math.MaxInt - 63, math.MaxInt}
	every := func(n api.Net) {
		fault := topo.Check(n)
		l, one := topo.Levels(n)
		o, two := topo.Order(n)
		s := topo.Support(n, strange)
		same(t, "right", one && two, fault == api.OK)
		if fault != api.OK && len(l)+len(o)+len(s) > 0 {
			t.Errorf("something of what isn't right: %v", n)
		}
	}
	for _, number := range strange {
		n := whole()
		for i, place := range []*int{&n.Vars, &n.Inputs[0], &n.Latches[1].Var, &n.Latches[1].Next, &n.Latches[1].Init, &n.Outputs[0], &n.Bads[0], &n.Constraints[0],
			&n.Mems[0].Addr, &n.Mems[0].Word, &n.Mems[0].Reads[0].Var, &n.Mems[0].Reads[0].Addr[1], &n.Mems[0].Writes[0].On, &n.Mems[0].Writes[0].Addr[0],
			&n.Mems[0].Writes[0].Data[2], &n.Ands[0].Var, &n.Ands[1].A, &n.Ands[1].B} {
			was := *place
			*place = number
			every(n)
			if number < 0 {
				same(t, fmt.Sprint("place ", i, " below 0"), topo.Check(n) == api.OK, false)
			}
			*place = was
		}
	}
	n := whole()
	n.Mems[0].Reads[0].Addr = nil
	every(n)
	n.Mems[0].Reads = nil
	every(n)
}

// TestExample: the chapter's.
func TestExample(t *testing.T) {
	l, ok := topo.Levels(api.Net{Vars: 2, Inputs: []int{1}, Ands: []api.And{{Var: 2, A: 2, B: 2}}})
	same(t, "an and of an input", ok, true)
	sameList(t, "an and of an input", l, []int{0, 0, 1})
}
