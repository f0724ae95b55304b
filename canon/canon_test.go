package canon_test

import (
	"cmp"
	"fmt"
	"math"
	"reflect"
	"slices"
	"testing"

	"astrarium/api"
	"astrarium/binary"
	"astrarium/canon"
	"astrarium/net"
	"astrarium/topo"
)

func same[T comparable](t *testing.T, what string, got, want T) {
	t.Helper()
	if got != want {
		t.Errorf("%s: %v, not %v", what, got, want)
	}
}

// sameList: alike, element by element; an empty list is like nil.
func sameList(t *testing.T, what string, got, want []int) {
	t.Helper()
	if !slices.Equal(got, want) {
		t.Errorf("%s: %v, not %v", what, got, want)
	}
}

// sameNet: alike in all.
func sameNet(t *testing.T, what string, got, want api.Net) {
	t.Helper()
	if !net.Same(got, want) {
		t.Errorf("%s: %v, not %v", what, got, want)
	}
}

// whole: a netlist that is right, and has some of everything, in no order; its nodes, by levels, are the second and, the second port, the third one, the first one, the first and.
func whole() api.Net {
	return api.Net{
		Vars:        14,
		Inputs:      []int{3, 1},
		Latches:     []api.Latch{{Var: 2, Next: 29}, {Var: 14, Next: 5, Init: 1}, {Var: 4, Next: 27, Init: api.Any}},
		Outputs:     []int{28, 1},
		Bads:        []int{6, 7},
		Constraints: []int{1, 8},
		Mems: []api.Memory{
			{Addr: 2, Word: 3, Any: true,
				Reads:  []api.Read{{Var: 5, Addr: []int{17, 3}}, {Var: 10, Addr: []int{28, 0}}},
				Writes: []api.Write{{On: 26, Addr: []int{6, 9}, Data: []int{10, 11, 12}}, {On: 1, Addr: []int{0, 1}, Data: []int{1, 0, 20}}}},
			{Addr: 1, Word: 1, Reads: []api.Read{{Var: 8, Addr: []int{5}}}},
		},
		Ands: []api.And{{Var: 13, A: 11, B: 18}, {Var: 9, A: 29, B: 2}},
	}
}

// wholeTo: the renaming that numbers the whole.
func wholeTo() []int {
	return []int{0, 2, 3, 1, 5, 6, 7, 8, 12, 13, 9, 10, 11, 14, 4}
}

// wholeNumbered: the whole, numbered.
func wholeNumbered() api.Net {
	return api.Net{
		Vars:        14,
		Inputs:      []int{1, 2},
		Latches:     []api.Latch{{Var: 3, Next: 9}, {Var: 4, Next: 7, Init: 1}, {Var: 5, Next: 29, Init: api.Any}},
		Outputs:     []int{8, 1},
		Bads:        []int{2, 3},
		Constraints: []int{1, 10},
		Mems: []api.Memory{
			{Addr: 2, Word: 3, Any: true,
				Reads:  []api.Read{{Var: 6, Addr: []int{25, 5}}, {Var: 9, Addr: []int{8, 0}}},
				Writes: []api.Write{{On: 28, Addr: []int{2, 11}, Data: []int{12, 13, 14}}, {On: 1, Addr: []int{0, 1}, Data: []int{1, 0, 18}}}},
			{Addr: 1, Word: 1, Reads: []api.Read{{Var: 12, Addr: []int{7}}}},
		},
		Ands: []api.And{{Var: 13, A: 9, B: 4}, {Var: 14, A: 26, B: 13}},
	}
}

// chance: numbers that look like chance, the same in each run.
type chance uint64

func (c *chance) below(n int) int {
	*c = *c*6364136223846793005 + 1442695040888963407
	return int(uint64(*c) >> 33 % uint64(n))
}

// shuffle: the list in another order.
func shuffle[T any](c *chance, list []T) {
	for i := range list {
		j := i + c.below(len(list)-i)
		list[i], list[j] = list[j], list[i]
	}
}

// definitions: where the variables of a netlist stand; of a port's data the first one.
func definitions(n api.Net) []*int {
	var list []*int
	for i := range n.Inputs {
		list = append(list, &n.Inputs[i])
	}
	for i := range n.Latches {
		list = append(list, &n.Latches[i].Var)
	}
	for _, m := range n.Mems {
		for i := range m.Reads {
			list = append(list, &m.Reads[i].Var)
		}
	}
	for i := range n.Ands {
		list = append(list, &n.Ands[i].Var)
	}
	return list
}

// literals: where the literals of a netlist stand.
func literals(n api.Net) []*int {
	var list []*int
	lists := [][]int{n.Outputs, n.Bads, n.Constraints}
	for i := range n.Latches {
		list = append(list, &n.Latches[i].Next)
	}
	for i := range n.Ands {
		list = append(list, &n.Ands[i].A, &n.Ands[i].B)
	}
	for _, m := range n.Mems {
		for _, r := range m.Reads {
			lists = append(lists, r.Addr)
		}
		for i, w := range m.Writes {
			list = append(list, &m.Writes[i].On)
			lists = append(lists, w.Addr, w.Data)
		}
	}
	for _, l := range lists {
		for i := range l {
			list = append(list, &l[i])
		}
	}
	return list
}

// renamed: another netlist, each of whose variables v is to[v].
func renamed(n api.Net, to []int) api.Net {
	n = net.Clone(n)
	for _, v := range definitions(n) {
		*v = to[*v]
	}
	for _, l := range literals(n) {
		*l = 2*to[*l/2] + *l%2
	}
	return n
}

// parts: as many variables as each definition of a netlist has; of a port as many as its data.
func parts(n api.Net) []int {
	list := make([]int, len(n.Inputs)+len(n.Latches))
	for i := range list {
		list[i] = 1
	}
	for _, m := range n.Mems {
		for range m.Reads {
			list = append(list, m.Word)
		}
	}
	for range n.Ands {
		list = append(list, 1)
	}
	return list
}

// mixed: a renaming by which the definitions of a netlist stand in another order, data one behind the other.
func mixed(c *chance, n api.Net) []int {
	to := make([]int, n.Vars+1)
	first, wide := definitions(n), parts(n)
	places := make([]int, len(first))
	for i := range places {
		places[i] = i
	}
	shuffle(c, places)
	next := 1
	for _, i := range places {
		for j := range wide[i] {
			to[*first[i]+j] = next
			next++
		}
	}
	return to
}

// drawn: a netlist that is right, of few variables of all kinds, whose definitions, ands and literals stand in any order.
func drawn(c *chance) api.Net {
	n := api.Net{Inputs: make([]int, c.below(4)), Latches: make([]api.Latch, c.below(4)), Outputs: make([]int, c.below(3)),
		Bads: make([]int, c.below(3)), Constraints: make([]int, c.below(3)), Ands: make([]api.And, c.below(8))}
	for range c.below(4) {
		m := api.Memory{Addr: 1 + c.below(3), Word: 1 + c.below(4), Any: c.below(2) == 0}
		for range c.below(4) {
			m.Reads = append(m.Reads, api.Read{Addr: make([]int, m.Addr)})
		}
		for range c.below(3) {
			m.Writes = append(m.Writes, api.Write{Addr: make([]int, m.Addr), Data: make([]int, m.Word)})
		}
		n.Mems = append(n.Mems, m)
	}
	for i, wide := range parts(n) {
		*definitions(n)[i] = n.Vars + 1
		n.Vars += wide
	}
	for _, l := range literals(n) {
		*l = c.below(2*n.Vars + 2)
	}
	for i := range n.Latches {
		n.Latches[i].Init = c.below(3)
	}
	straighten(c, n)
	n = renamed(n, mixed(c, n))
	shuffle(c, n.Ands)
	return n
}

// straighten: node by node, in any order, the literals on which values hang become some of what was there ahead.
func straighten(c *chance, n api.Net) {
	ahead := []int{0, 1}
	has := func(first, count int) {
		for v := first; v < first+count; v++ {
			ahead = append(ahead, 2*v, 2*v+1)
		}
	}
	has(1, len(n.Inputs)+len(n.Latches))
	var nodes []func()
	for i := range n.Ands {
		nodes = append(nodes, func() {
			n.Ands[i].A, n.Ands[i].B = ahead[c.below(len(ahead))], ahead[c.below(len(ahead))]
			has(n.Ands[i].Var, 1)
		})
	}
	for _, m := range n.Mems {
		for _, r := range m.Reads {
			nodes = append(nodes, func() {
				for i := range r.Addr {
					r.Addr[i] = ahead[c.below(len(ahead))]
				}
				has(r.Var, m.Word)
			})
		}
	}
	shuffle(c, nodes)
	for _, node := range nodes {
		node()
	}
}

// levels: told round by round, as far up as they go.
func levels(n api.Net) []int {
	list := make([]int, n.Vars+1)
	for range list {
		for _, a := range n.Ands {
			list[a.Var] = 1 + max(list[a.A/2], list[a.B/2])
		}
		for _, m := range n.Mems {
			for _, r := range m.Reads {
				level := 0
				for _, l := range r.Addr {
					level = max(level, 1+list[l/2])
				}
				for i := range m.Word {
					list[r.Var+i] = level
				}
			}
		}
	}
	return list
}

// numbered: a netlist that is right, numbered, and its renaming: ands by levels, then variables one by one, then an and's literals.
func numbered(n api.Net) (api.Net, []int) {
	n = net.Clone(n)
	level := levels(n)
	slices.SortStableFunc(n.Ands, func(a, b api.And) int { return cmp.Compare(level[a.Var], level[b.Var]) })
	to := make([]int, n.Vars+1)
	next := 1
	for i, first := range definitions(n) {
		for j := range parts(n)[i] {
			to[*first+j] = next
			next++
		}
	}
	n = renamed(n, to)
	for i, a := range n.Ands {
		if a.A < a.B {
			n.Ands[i].A, n.Ands[i].B = a.B, a.A
		}
	}
	return n, to
}

// identity: the renaming by which all stays.
func identity(vars int) []int {
	to := make([]int, vars+1)
	for v := range to {
		to[v] = v
	}
	return to
}

// turned: the renaming by which the first variable is the last one, and so on.
func turned(vars int) []int {
	to := identity(vars)
	slices.Reverse(to[1:])
	return to
}

// chain: ands, each of the one behind, the last one of the constant.
func chain(count int) api.Net {
	n := api.Net{Vars: count}
	for v := 1; v <= count; v++ {
		n.Ands = append(n.Ands, api.And{Var: v, A: 1, B: 2 * ((v + 1) % (count + 1))})
	}
	return n
}

// wrong: one for each of topo's Check's faults; where it can be, they have those that come behind, too.
func wrong() map[api.Fault]api.Net {
	circle := func() api.Net {
		n := whole()
		n.Ands[1].A = 26
		return n
	}
	limit, width, start, dangling, twice, missing := circle(), circle(), circle(), circle(), circle(), circle()
	limit.Vars = api.MaxVars + 1
	width.Mems[1].Word = 0
	start.Latches[0].Init = 3
	dangling.Bads[0] = 30
	twice.Inputs[0] = 1
	missing.Vars = 15
	return map[api.Fault]api.Net{api.Limit: limit, api.Width: width, api.BadArg: start, api.Dangling: dangling, api.Twice: twice, api.Missing: missing, api.Cycle: circle()}
}

// noRenamings: of as many places as there are.
func noRenamings() map[string][]int {
	return map[string][]int{
		"no places":            {},
		"no 0":                 {1},
		"below 0":              {-1},
		"0 is another one":     {1, 0},
		"all are one more":     {1, 2, 3},
		"twice 0":              {0, 0},
		"twice 0, at the end":  {0, 2, 1, 0},
		"twice 1":              {0, 1, 1},
		"twice, far apart":     {0, 3, 1, 2, 3},
		"above":                {0, 2},
		"just above":           {0, 1, 2, 4},
		"just above, first":    {0, 4, 2, 1},
		"minus one":            {0, 1, -1},
		"minus":                {0, -1, -2},
		"the greatest":         {0, 2, math.MaxInt, 1},
		"the least":            {0, math.MinInt, 1},
		"0 is as great as all": {3, 1, 2},
		"0 is in the middle":   {2, 1, 0},
	}
}

// refusedRename: no netlist, and that fault.
func refusedRename(t *testing.T, what string, n api.Net, to []int, want api.Fault) {
	t.Helper()
	got, fault := canon.Rename(n, to)
	same(t, what, fault, want)
	same(t, what+": nothing", reflect.DeepEqual(got, api.Net{}), true)
}

// TestP901Rename: each variable, in definitions and literals; all else stays.
func TestP901Rename(t *testing.T) {
	for _, c := range []struct {
		what    string
		n, want api.Net
		to      []int
	}{
		{"nothing", api.Net{}, api.Net{}, []int{0}},
		{"constants", api.Net{Bads: []int{1, 0}, Outputs: []int{0, 1, 1}}, api.Net{Bads: []int{1, 0}, Outputs: []int{0, 1, 1}}, []int{0}},
		{"one input", api.Net{Vars: 1, Inputs: []int{1}, Bads: []int{2, 3}}, api.Net{Vars: 1, Inputs: []int{1}, Bads: []int{2, 3}}, []int{0, 1}},
		{"two inputs", api.Net{Vars: 2, Inputs: []int{1, 2}, Bads: []int{2, 3, 4, 5}}, api.Net{Vars: 2, Inputs: []int{2, 1}, Bads: []int{4, 5, 2, 3}}, []int{0, 2, 1}},
		{"three, in a ring", api.Net{Vars: 3, Inputs: []int{1, 2, 3}, Outputs: []int{2, 4, 7}}, api.Net{Vars: 3, Inputs: []int{2, 3, 1}, Outputs: []int{4, 6, 3}}, []int{0, 2, 3, 1}},
		{"latches", api.Net{Vars: 2, Latches: []api.Latch{{Var: 1, Next: 5, Init: 1}, {Var: 2, Next: 2, Init: api.Any}}},
			api.Net{Vars: 2, Latches: []api.Latch{{Var: 2, Next: 3, Init: 1}, {Var: 1, Next: 4, Init: api.Any}}}, []int{0, 2, 1}},
		{"ands stay where they are", api.Net{Vars: 3, Inputs: []int{3}, Ands: []api.And{{Var: 1, A: 4, B: 6}, {Var: 2, A: 7, B: 7}}},
			api.Net{Vars: 3, Inputs: []int{2}, Ands: []api.And{{Var: 3, A: 2, B: 4}, {Var: 1, A: 5, B: 5}}}, []int{0, 3, 1, 2}},
		{"the whole, as it is", whole(), whole(), identity(14)},
	} {
		got, fault := canon.Rename(c.n, c.to)
		same(t, c.what, fault, api.OK)
		sameNet(t, c.what, got, c.want)
	}
	want := wholeNumbered()
	want.Ands = []api.And{{Var: 14, A: 13, B: 26}, {Var: 13, A: 9, B: 4}}
	got, fault := canon.Rename(whole(), wholeTo())
	same(t, "the whole", fault, api.OK)
	sameNet(t, "the whole", got, want)
}

// TestP901Most: as many variables as may be.
func TestP901Most(t *testing.T) {
	n := chain(api.MaxVars)
	got, fault := canon.Rename(n, turned(api.MaxVars))
	same(t, "a chain, turned", fault, api.OK)
	sameNet(t, "a chain, turned", got, renamed(n, turned(api.MaxVars)))
	same(t, "its first and", got.Ands[0], api.And{Var: 2000, A: 1, B: 3998})
	same(t, "its last one", got.Ands[1999], api.And{Var: 1, A: 1, B: 0})
}

// TestP901Fault: topo's Check's fault goes ahead of all that is wrong with the renaming.
func TestP901Fault(t *testing.T) {
	for want, n := range wrong() {
		same(t, "Check", topo.Check(n), want)
		for _, to := range [][]int{nil, {0}, identity(14), turned(14), identity(15), make([]int, 15)} {
			refusedRename(t, fmt.Sprint("a netlist of fault ", int(want)), n, to, want)
		}
	}
}

// TestP901BadArg: what is no renaming, or one of another netlist.
func TestP901BadArg(t *testing.T) {
	for what, to := range noRenamings() {
		n := api.Net{Vars: max(0, len(to)-1)}
		for v := 1; v <= n.Vars; v++ {
			n.Inputs = append(n.Inputs, v)
		}
		refusedRename(t, what, n, to, api.BadArg)
	}
	refusedRename(t, "nil", api.Net{}, nil, api.BadArg)
	refusedRename(t, "of one more variable than none", api.Net{}, []int{0, 1}, api.BadArg)
	for what, to := range map[string][]int{"nil": nil, "empty": {}, "of nothing": {0}, "one variable less": identity(13), "one more": identity(15), "no 0": identity(14)[1:], "much less": identity(2), "much more": identity(1 << 16)} {
		refusedRename(t, what, whole(), to, api.BadArg)
	}
	for v := range 15 {
		for _, number := range []int{math.MinInt, -14, -1, 0, 1, 7, 14, 15, 16, 28, 1 << 31, math.MaxInt} {
			to := wholeTo()
			if to[v] != number {
				to[v] = number
				refusedRename(t, fmt.Sprint(v, " is ", number), whole(), to, api.BadArg)
			}
		}
	}
	split := wholeTo()
	split[5], split[6], split[2] = 7, 6, 2
	refusedRename(t, "no renaming, data apart", whole(), split, api.BadArg)
}

// reading: a memory of so wide words, and ports that read them.
func reading(word int, ports ...int) api.Memory {
	m := api.Memory{Addr: 1, Word: word}
	for _, v := range ports {
		m.Reads = append(m.Reads, api.Read{Var: v, Addr: []int{0}})
	}
	return m
}

// TestP901Width: data that do not stay one behind the other.
func TestP901Width(t *testing.T) {
	for what, c := range map[string]struct {
		n  api.Net
		to []int
	}{
		"the other way round":       {api.Net{Vars: 2, Mems: []api.Memory{reading(2, 1)}}, []int{0, 2, 1}},
		"three, the other way":      {api.Net{Vars: 3, Mems: []api.Memory{reading(3, 1)}}, []int{0, 3, 2, 1}},
		"in a ring":                 {api.Net{Vars: 3, Mems: []api.Memory{reading(3, 1)}}, []int{0, 2, 3, 1}},
		"the first one stays":       {api.Net{Vars: 3, Mems: []api.Memory{reading(3, 1)}}, []int{0, 1, 3, 2}},
		"the last one goes":         {api.Net{Vars: 4, Inputs: []int{4}, Mems: []api.Memory{reading(3, 1)}}, []int{0, 1, 2, 4, 3}},
		"an input comes between":    {api.Net{Vars: 3, Inputs: []int{1}, Mems: []api.Memory{reading(2, 2)}}, []int{0, 2, 1, 3}},
		"two ports, one bit's":      {api.Net{Vars: 4, Mems: []api.Memory{reading(2, 1, 3)}}, []int{0, 1, 3, 2, 4}},
		"the second port":           {api.Net{Vars: 4, Mems: []api.Memory{reading(2, 1, 3)}}, []int{0, 1, 2, 4, 3}},
		"the second memory":         {api.Net{Vars: 3, Mems: []api.Memory{reading(1, 3), reading(2, 1)}}, []int{0, 2, 1, 3}},
		"the last of the widest":    {api.Net{Vars: 65, Inputs: []int{65}, Mems: []api.Memory{reading(64, 1)}}, append(identity(63), 65, 64)},
		"the whole, turned":         {whole(), turned(14)},
		"the whole, two data apart": {whole(), []int{0, 2, 3, 1, 5, 6, 8, 7, 12, 13, 9, 10, 11, 14, 4}},
	} {
		refusedRename(t, what, c.n, c.to, api.Width)
	}
	for what, c := range map[string]struct {
		n    api.Net
		to   []int
		want []int
	}{
		"ports change places":           {api.Net{Vars: 4, Mems: []api.Memory{reading(2, 1, 3)}}, []int{0, 3, 4, 1, 2}, []int{3, 1}},
		"words of one bit":              {api.Net{Vars: 3, Mems: []api.Memory{reading(1, 1, 2, 3)}}, []int{0, 3, 1, 2}, []int{3, 1, 2}},
		"all one up, the input down":    {api.Net{Vars: 4, Inputs: []int{4}, Mems: []api.Memory{reading(3, 1)}}, []int{0, 2, 3, 4, 1}, []int{1, 2}},
		"of two memories":               {api.Net{Vars: 5, Mems: []api.Memory{reading(2, 1), reading(3, 3)}}, []int{0, 4, 5, 1, 2, 3}, []int{4, 1}},
		"the widest":                    {api.Net{Vars: 65, Inputs: []int{1}, Mems: []api.Memory{reading(64, 2)}}, append([]int{0, 65}, identity(64)[1:]...), []int{65, 1}},
		"a memory that is written only": {api.Net{Vars: 2, Inputs: []int{1, 2}, Mems: []api.Memory{reading(2)}}, []int{0, 2, 1}, []int{2, 1}},
	} {
		got, fault := canon.Rename(c.n, c.to)
		same(t, what, fault, api.OK)
		var list []int
		for _, v := range definitions(got) {
			list = append(list, *v)
		}
		sameList(t, what, list, c.want)
	}
}

// TestP901Inverse: the renaming back, of any netlist's.
func TestP901Inverse(t *testing.T) {
	for _, c := range []struct{ to, want []int }{
		{[]int{0}, []int{0}},
		{[]int{0, 1}, []int{0, 1}},
		{[]int{0, 2, 1}, []int{0, 2, 1}},
		{[]int{0, 2, 3, 1}, []int{0, 3, 1, 2}},
		{[]int{0, 3, 1, 2}, []int{0, 2, 3, 1}},
		{[]int{0, 4, 1, 3, 2}, []int{0, 2, 4, 3, 1}},
		{wholeTo(), []int{0, 3, 1, 2, 14, 4, 5, 6, 7, 10, 11, 12, 8, 9, 13}},
		{turned(api.MaxVars), turned(api.MaxVars)},
		{turned(1 << 16), turned(1 << 16)},
	} {
		got, ok := canon.Inverse(c.to)
		same(t, "Inverse", ok, true)
		sameList(t, "Inverse", got, c.want)
	}
	for what, to := range noRenamings() {
		got, ok := canon.Inverse(to)
		same(t, what, ok, false)
		sameList(t, what, got, nil)
	}
	got, ok := canon.Inverse(nil)
	same(t, "nil", ok, false)
	sameList(t, "nil", got, nil)
}

// TestP901Every: all lists of few places, and of numbers just outside, too.
func TestP901Every(t *testing.T) {
	for places := range 6 {
		count, renamings := 1, 1
		for i := range places {
			count *= places + 2
			renamings *= max(1, i)
		}
		if places == 0 {
			renamings = 0
		}
		for number := range count {
			to := make([]int, places)
			for i := range to {
				to[i], number = number%(places+2)-1, number/(places+2)
			}
			all := slices.Sorted(slices.Values(to))
			want := places > 0 && to[0] == 0 && slices.Equal(all, identity(places-1))
			back, ok := canon.Inverse(to)
			same(t, fmt.Sprint(to), ok, want)
			if !ok {
				sameList(t, fmt.Sprint(to), back, nil)
				continue
			}
			renamings--
			same(t, "how many places", len(back), places)
			for v := range to {
				same(t, fmt.Sprint(to, " and back"), back[to[v]], v)
			}
		}
		same(t, "how many are missing", renamings, 0)
	}
}

// TestP902Number: definitions one by one, ands in order, an and's greater literal ahead; and the renaming.
func TestP902Number(t *testing.T) {
	for _, c := range []struct {
		what    string
		n, want api.Net
		to      []int
	}{
		{"nothing", api.Net{}, api.Net{}, []int{0}},
		{"constants", api.Net{Bads: []int{1, 0}}, api.Net{Bads: []int{1, 0}}, []int{0}},
		{"the whole", whole(), wholeNumbered(), wholeTo()},
		{"what is numbered", wholeNumbered(), wholeNumbered(), identity(14)},
		{"kinds, the other way round", api.Net{Vars: 4, Inputs: []int{4}, Latches: []api.Latch{{Var: 3, Next: 2, Init: 1}}, Mems: []api.Memory{reading(1, 2)}, Ands: []api.And{{Var: 1, A: 5, B: 8}}},
			api.Net{Vars: 4, Inputs: []int{1}, Latches: []api.Latch{{Var: 2, Next: 8, Init: 1}}, Mems: []api.Memory{reading(1, 3)}, Ands: []api.And{{Var: 4, A: 7, B: 2}}}, []int{0, 4, 3, 2, 1}},
		{"inputs stay in their order", api.Net{Vars: 3, Inputs: []int{2, 3, 1}, Outputs: []int{2}}, api.Net{Vars: 3, Inputs: []int{1, 2, 3}, Outputs: []int{6}}, []int{0, 3, 1, 2}},
		{"ands of one level stay in theirs", api.Net{Vars: 3, Ands: []api.And{{Var: 2, A: 1}, {Var: 3}, {Var: 1, A: 1, B: 1}}},
			api.Net{Vars: 3, Ands: []api.And{{Var: 1, A: 1}, {Var: 2}, {Var: 3, A: 1, B: 1}}}, []int{0, 3, 1, 2}},
		{"ands that are in order by places, not by levels", api.Net{Vars: 3, Ands: []api.And{{Var: 1}, {Var: 2, A: 2}, {Var: 3}}},
			api.Net{Vars: 3, Ands: []api.And{{Var: 1}, {Var: 2}, {Var: 3, A: 2}}}, []int{0, 1, 3, 2}},
		{"which is greater is told by what is renamed", api.Net{Vars: 3, Inputs: []int{2, 1}, Ands: []api.And{{Var: 3, A: 5, B: 2}}},
			api.Net{Vars: 3, Inputs: []int{1, 2}, Ands: []api.And{{Var: 3, A: 4, B: 3}}}, []int{0, 2, 1, 3}},
		{"two literals of one variable", api.Net{Vars: 2, Inputs: []int{2}, Ands: []api.And{{Var: 1, A: 4, B: 5}}}, api.Net{Vars: 2, Inputs: []int{1}, Ands: []api.And{{Var: 2, A: 3, B: 2}}}, []int{0, 2, 1}},
		{"twice the same", api.Net{Vars: 2, Inputs: []int{2}, Ands: []api.And{{Var: 1, A: 5, B: 5}}}, api.Net{Vars: 2, Inputs: []int{1}, Ands: []api.And{{Var: 2, A: 3, B: 3}}}, []int{0, 2, 1}},
		{"a level by a port", api.Net{Vars: 4, Mems: []api.Memory{{Addr: 1, Word: 2, Reads: []api.Read{{Var: 1, Addr: []int{8}}}}}, Ands: []api.And{{Var: 3, A: 0, B: 4}, {Var: 4}}},
			api.Net{Vars: 4, Mems: []api.Memory{{Addr: 1, Word: 2, Reads: []api.Read{{Var: 1, Addr: []int{6}}}}}, Ands: []api.And{{Var: 3}, {Var: 4, A: 4, B: 0}}}, []int{0, 1, 2, 4, 3}},
	} {
		got, to, fault := canon.Number(c.n)
		same(t, c.what, fault, api.OK)
		sameNet(t, c.what, got, c.want)
		sameList(t, c.what, to, c.to)
	}
}

// TestP902Fault: topo's Check's, no netlist, and no renaming.
func TestP902Fault(t *testing.T) {
	for want, n := range wrong() {
		got, to, fault := canon.Number(n)
		same(t, "Number", fault, want)
		same(t, "nothing", reflect.DeepEqual(got, api.Net{}), true)
		sameList(t, "no renaming", to, nil)
	}
}

// TestP902Most: as much as may be.
func TestP902Most(t *testing.T) {
	got, to, fault := canon.Number(chain(api.MaxVars))
	same(t, "a chain", fault, api.OK)
	sameList(t, "a chain", to, turned(api.MaxVars))
	for i, a := range got.Ands {
		same(t, "an and", a, api.And{Var: i + 1, A: max(1, 2*i), B: min(1, 2*i)})
	}
	n := api.Net{Vars: api.MaxVars}
	v := n.Vars
	for range api.MaxMems {
		m := api.Memory{Addr: api.MaxAddr, Word: api.MaxWord, Writes: make([]api.Write, api.MaxPorts)}
		for i := range m.Writes {
			m.Writes[i] = api.Write{Addr: make([]int, m.Addr), Data: make([]int, m.Word)}
		}
		for range api.MaxPorts {
			v -= m.Word
			m.Reads = append(m.Reads, api.Read{Var: v + 1, Addr: slices.Repeat([]int{3}, m.Addr)})
		}
		n.Mems = append(n.Mems, m)
	}
	for ; v > 0; v-- {
		n.Inputs = append(n.Inputs, v)
	}
	want, wantTo := numbered(n)
	got, to, fault = canon.Number(n)
	same(t, "ports", fault, api.OK)
	sameNet(t, "ports", got, want)
	sameList(t, "ports", to, wantTo)
	same(t, "the last port", got.Mems[3].Reads[3].Var, 1937)
}

// laws: what P903 says of a netlist that is right, and of a renaming of it.
func laws(t *testing.T, n api.Net, to []int) {
	t.Helper()
	m, _, fault := canon.Number(n)
	same(t, "right", fault, api.OK)
	same(t, "right, when it is numbered", topo.Check(m), api.OK)
	same(t, "numbered", binary.Numbered(m), true)
	again, stay, fault := canon.Number(m)
	same(t, "right, when it is numbered again", fault, api.OK)
	sameNet(t, "numbered again", again, m)
	sameList(t, "numbered again", stay, identity(n.Vars))

	there, fault := canon.Rename(n, to)
	same(t, "renamed", fault, api.OK)
	same(t, "right, when it is renamed", topo.Check(there), api.OK)
	inverse, ok := canon.Inverse(to)
	same(t, "there is a way back", ok, true)
	back, fault := canon.Rename(there, inverse)
	same(t, "renamed back", fault, api.OK)
	sameNet(t, "there and back", back, n)
	twice, _ := canon.Inverse(inverse)
	sameList(t, "Inverse of Inverse", twice, to)
}

// TestP903: laws, of a few netlists.
func TestP903(t *testing.T) {
	laws(t, api.Net{}, []int{0})
	laws(t, whole(), wholeTo())
	laws(t, whole(), identity(14))
	laws(t, chain(api.MaxVars), turned(api.MaxVars))
}

// TestDrawn: as the words say, of many netlists.
func TestDrawn(t *testing.T) {
	c := chance(9)
	apart := 0
	for round := range 3000 {
		n := drawn(&c)
		what := fmt.Sprint("round ", round, ": ", n)
		same(t, what, topo.Check(n), api.OK)
		want, wantTo := numbered(n)
		got, to, fault := canon.Number(n)
		same(t, what, fault, api.OK)
		sameNet(t, what, got, want)
		sameList(t, what, to, wantTo)

		to = mixed(&c, n)
		there, fault := canon.Rename(n, to)
		same(t, what, fault, api.OK)
		sameNet(t, what, there, renamed(n, to))
		laws(t, n, to)

		shuffle(&c, to[1:])
		there, fault = canon.Rename(n, to)
		if together(n, to) {
			same(t, what, fault, api.OK)
			sameNet(t, what, there, renamed(n, to))
			continue
		}
		apart++
		same(t, what, fault, api.Width)
		same(t, what, reflect.DeepEqual(there, api.Net{}), true)
	}
	if apart < 500 || apart > 2500 {
		t.Errorf("the data of %d netlists of 3000 do not stay together", apart)
	}
}

// together: all data stay one behind the other.
func together(n api.Net, to []int) bool {
	for _, m := range n.Mems {
		for _, r := range m.Reads {
			for i := range m.Word {
				if to[r.Var+i]-to[r.Var] != i {
					return false
				}
			}
		}
	}
	return true
}

// TestShared: lists of a netlist that are one list in memory are renamed once each.
func TestShared(t *testing.T) {
	list := []int{4, 7}
	n := api.Net{Vars: 3, Inputs: []int{2, 3, 1}, Outputs: list, Bads: list, Constraints: list, Mems: []api.Memory{
		{Addr: 2, Word: 2, Writes: []api.Write{{On: 4, Addr: list, Data: list}, {On: 7, Addr: list, Data: list}}}}}
	got, to, fault := canon.Number(n)
	same(t, "Number", fault, api.OK)
	sameList(t, "the renaming", to, []int{0, 3, 1, 2})
	for _, l := range [][]int{got.Outputs, got.Bads, got.Constraints, got.Mems[0].Writes[0].Addr, got.Mems[0].Writes[0].Data, got.Mems[0].Writes[1].Addr, got.Mems[0].Writes[1].Data} {
		sameList(t, "a list", l, []int{2, 5})
		clear(l)
	}
	sameList(t, "the list", list, []int{4, 7})
}

// roomy: the whole, whose lists of numbers all stand in one, with spare room behind each.
func roomy() (api.Net, []int) {
	n := whole()
	all := slices.Repeat([]int{-7}, 256)
	used := 0
	lay := func(list []int) []int {
		begin := used
		used += copy(all[used:], list) + 3
		return all[begin : begin+len(list)]
	}
	n.Inputs, n.Outputs, n.Bads, n.Constraints = lay(n.Inputs), lay(n.Outputs), lay(n.Bads), lay(n.Constraints)
	for _, m := range n.Mems {
		for i := range m.Reads {
			m.Reads[i].Addr = lay(m.Reads[i].Addr)
		}
		for i := range m.Writes {
			m.Writes[i].Addr, m.Writes[i].Data = lay(m.Writes[i].Addr), lay(m.Writes[i].Data)
		}
	}
	n.Latches = append(make([]api.Latch, 0, 5), n.Latches...)
	n.Ands = append(make([]api.And, 0, 5), n.Ands...)
	return n, all
}

// spoil: all numbers of a netlist are others.
func spoil(n api.Net) {
	for _, p := range slices.Concat(definitions(n), literals(n)) {
		*p = -99
	}
}

// TestKept: what is handed in stays as it was, spare room too; what is handed out is new.
func TestKept(t *testing.T) {
	n, all := roomy()
	before := slices.Clone(all)
	room := append(wholeTo(), -1, -2, -3)
	to := room[:15]
	for range 2 {
		numbered, renaming, fault := canon.Number(n)
		same(t, "Number", fault, api.OK)
		sameNet(t, "Number", numbered, wholeNumbered())
		sameList(t, "its renaming", renaming, wholeTo())
		spoil(numbered)
		clear(renaming)
		for _, r := range [][]int{to, identity(14)} {
			other, fault := canon.Rename(n, r)
			same(t, "Rename", fault, api.OK)
			sameNet(t, "Rename", other, renamed(whole(), r))
			spoil(other)
		}
		back, ok := canon.Inverse(to)
		same(t, "Inverse", ok, true)
		clear(back)
	}
	sameNet(t, "the netlist", n, whole())
	sameList(t, "its lists and their spare room", all, before)
	same(t, "spare room for latches", n.Latches[:5][3] == api.Latch{} && n.Latches[:5][4] == api.Latch{}, true)
	same(t, "spare room for ands", n.Ands[:5][2] == api.And{} && n.Ands[:5][3] == api.And{}, true)
	sameList(t, "the renaming and its spare room", room, append(wholeTo(), -1, -2, -3))
}

// TestStrange: whatever numbers a netlist has, each call ends, and none panics; what isn't right is refused.
func TestStrange(t *testing.T) {
	every := func(n api.Net) {
		fault := topo.Check(n)
		_, to, kind := canon.Number(n)
		same(t, "Number", kind, fault)
		same(t, "a renaming", len(to) > 0, fault == api.OK)
		for _, to := range [][]int{nil, identity(14), turned(14), identity(api.MaxVars + 1)} {
			_, kind := canon.Rename(n, to)
			if fault != api.OK {
				same(t, "Rename", kind, fault)
			}
		}
	}
	strange := []int{math.MinInt, math.MinInt + 1, -1 << 61, -2, -1, 0, 15, 30, 65, 2001, 4002, 1 << 31, 1 << 61, math.MaxInt - 63, math.MaxInt}
	for _, number := range strange {
		n := whole()
		places := slices.Concat(definitions(n), literals(n), []*int{&n.Vars, &n.Latches[1].Init, &n.Mems[0].Addr, &n.Mems[0].Word})
		for i := range places {
			was := *places[i]
			*places[i] = number
			every(n)
			*places[i] = was
		}
	}
	n := whole()
	n.Mems[0].Reads[0].Addr = nil
	every(n)
	n.Mems[0].Reads = nil
	every(n)
}

// TestExample: the chapter's.
func TestExample(t *testing.T) {
	n := api.Net{Vars: 2, Inputs: []int{2}, Ands: []api.And{{Var: 1, A: 4, B: 5}}}
	got, to, fault := canon.Number(n)
	same(t, "Number", fault, api.OK)
	sameNet(t, "Number", got, api.Net{Vars: 2, Inputs: []int{1}, Ands: []api.And{{Var: 2, A: 3, B: 2}}})
	sameList(t, "the renaming", to, []int{0, 2, 1})
}
