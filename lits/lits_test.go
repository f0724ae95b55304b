package lits_test

import (
	"math"
	"slices"
	"testing"

	"astrarium/lits"
)

const (
	topVar = 1 << 60
	topLit = 1<<61 + 1
)

// of: a variable, whether it is negated, and the literals that stand for that.
type of struct {
	v      int
	neg    bool
	plain  int
	signed int
}

func literals() []of {
	return []of{
		{0, false, 0, 0},
		{0, true, 1, 0},
		{1, false, 2, 1},
		{1, true, 3, -1},
		{3, false, 6, 3},
		{3, true, 7, -3},
		{2000, false, 4000, 2000},
		{2000, true, 4001, -2000},
		{1<<31 - 1, false, 1<<32 - 2, 1<<31 - 1},
		{1 << 31, true, 1<<32 + 1, -1 << 31},
		{topVar - 1, true, topLit - 2, 1 - topVar},
		{topVar, false, topLit - 1, topVar},
		{topVar, true, topLit, -topVar},
	}
}

// strange: numbers that are no literal, of a netlist or of a formula.
func strange() []int {
	return []int{math.MinInt, math.MinInt + 1, -topLit, -topVar - 1, -2, -1, topLit + 1, topLit + 2, 1 << 62, math.MaxInt - 1, math.MaxInt}
}

func same[T comparable](t *testing.T, what string, got, want T) {
	t.Helper()
	if got != want {
		t.Errorf("%s: %v, not %v", what, got, want)
	}
}

// sameList: alike, element by element; an empty list is like nil.
func sameList(t *testing.T, what string, got, want []int) {
	t.Helper()
	if !slices.Equal(got, want) {
		t.Errorf("%s: %v, not %v", what, got, want)
	}
}

// TestP101: Make, Var, Neg, Not, Xor.
func TestP101(t *testing.T) {
	for _, x := range literals() {
		same(t, "Make", lits.Make(x.v, x.neg), x.plain)
		same(t, "Var", lits.Var(x.plain), x.v)
		same(t, "Neg", lits.Neg(x.plain), x.neg)
		same(t, "Xor, false", lits.Xor(x.plain, false), x.plain)
		other := x.plain + 1
		if x.neg {
			other = x.plain - 1
		}
		same(t, "Not", lits.Not(x.plain), other)
		same(t, "Xor, true", lits.Xor(x.plain, true), other)
	}
}

// TestP102: Signed, Plain.
func TestP102(t *testing.T) {
	for _, x := range literals() {
		same(t, "Signed", lits.Signed(x.plain), x.signed)
		if x.v != 0 {
			same(t, "Plain", lits.Plain(x.signed), x.plain)
		}
	}
	same(t, "Plain of 0", lits.Plain(0), 0)
}

// TestP103Sort: rising, each once.
func TestP103Sort(t *testing.T) {
	for _, x := range []struct{ list, want []int }{
		{nil, nil},
		{[]int{}, nil},
		{[]int{0}, []int{0}},
		{[]int{1, 0}, []int{0, 1}},
		{[]int{0, 0, 0}, []int{0}},
		{[]int{5, 2, 5}, []int{2, 5}},
		{[]int{2, 3, 4}, []int{2, 3, 4}},
		{[]int{9, 8, 8, 1, 9, 1, 0}, []int{0, 1, 8, 9}},
		{[]int{3, -3, 1, -1, 3, -3}, []int{-3, -1, 1, 3}},
		{[]int{topLit, 0, topLit - 1, topLit}, []int{0, topLit - 1, topLit}},
		{[]int{topVar, -topVar, 1, -topVar}, []int{-topVar, 1, topVar}},
	} {
		sameList(t, "Sort", lits.Sort(x.list), x.want)
	}
}

// TestP103Max: the greatest variable, wherever it stands.
func TestP103Max(t *testing.T) {
	for _, x := range []struct {
		list []int
		want int
	}{
		{nil, 0},
		{[]int{}, 0},
		{[]int{0}, 0},
		{[]int{1, 0}, 0},
		{[]int{2}, 1},
		{[]int{5, 2, 9}, 4},
		{[]int{9, 2, 5}, 4},
		{[]int{2, 8, 5}, 4},
		{[]int{8, 9, 8}, 4},
		{[]int{topLit, 0}, topVar},
		{[]int{0, topLit - 1, topLit - 2}, topVar},
	} {
		same(t, "Max", lits.Max(x.list), x.want)
	}
}

// TestP103Kept: a list that is handed in stays as it was, its spare room too, and shares nothing with the answer.
func TestP103Kept(t *testing.T) {
	for _, list := range [][]int{{}, {7}, {2, 5}, {5, 2, 5}, {9, 9, 9}, {7, 0, 7, 1, 0}} {
		room := append(slices.Clone(list), -77, -78, -79)
		before := slices.Clone(room)
		sorted := lits.Sort(room[:len(list)])
		lits.Max(room[:len(list)])
		sameList(t, "the list and its spare room", room, before)

		for i := range sorted {
			sorted[i] = 1000
		}
		for range list {
			sorted = append(sorted, 1000)
		}
		sameList(t, "the list, when the answer is written to", room, before)
	}
}

// TestP103Many: of long lists, too, each literal that is there, and no other, rising.
func TestP103Many(t *testing.T) {
	for size := range 200 {
		list := make([]int, size)
		in := map[int]bool{}
		greatest := 0
		for i := range list {
			list[i] = (i*i*37 + size*11) % 101
			in[list[i]] = true
			greatest = max(greatest, list[i]/2)
		}
		sorted := lits.Sort(list)
		same(t, "how many there are", len(sorted), len(in))
		for i, l := range sorted {
			same(t, "is there", in[l], true)
			same(t, "is greater than the one ahead", i == 0 || sorted[i-1] < l, true)
		}
		same(t, "Max", lits.Max(list), greatest)
	}
}

// laws: what P104 says of one literal of a netlist.
func laws(t *testing.T, l int) {
	t.Helper()
	same(t, "Make of Var and Neg", lits.Make(lits.Var(l), lits.Neg(l)), l)
	same(t, "Not of Not", lits.Not(lits.Not(l)), l)
	same(t, "Var of Not", lits.Var(lits.Not(l)), lits.Var(l))
	same(t, "Neg of Not", lits.Neg(lits.Not(l)), !lits.Neg(l))
	for _, neg := range []bool{false, true} {
		same(t, "Xor of Xor", lits.Xor(lits.Xor(l, neg), neg), l)
	}
	if lits.Var(l) == 0 {
		same(t, "Plain of Signed, of variable 0", lits.Plain(lits.Signed(l)), 0)
		return
	}
	same(t, "Plain of Signed", lits.Plain(lits.Signed(l)), l)
	same(t, "Signed of Plain", lits.Signed(lits.Plain(lits.Signed(l))), lits.Signed(l))
	same(t, "Signed of Not", lits.Signed(lits.Not(l)), -lits.Signed(l))
	same(t, "Signed of Plain of the other", lits.Signed(lits.Plain(-lits.Signed(l))), -lits.Signed(l))
}

// TestP104: there and back all is as it was; negated twice it is itself.
func TestP104(t *testing.T) {
	for l := range 5000 {
		laws(t, l)
	}
	for i := range 64 {
		laws(t, topLit-i)
	}
	for shift := range 61 {
		laws(t, 1<<shift)
		laws(t, 1<<shift+1)
	}
	list := []int{7, 0, 3, 7, topLit, 1}
	sameList(t, "Sort of Sort", lits.Sort(lits.Sort(list)), lits.Sort(list))
}

// TestStrange: of numbers that are no literal each call ends, and none panics.
func TestStrange(t *testing.T) {
	for _, x := range strange() {
		for _, neg := range []bool{false, true} {
			lits.Make(x, neg)
			lits.Xor(x, neg)
		}
		lits.Var(x)
		lits.Neg(x)
		lits.Not(x)
		lits.Signed(x)
		lits.Plain(x)
	}
	list := append(strange(), strange()...)
	before := slices.Clone(list)
	lits.Sort(list)
	lits.Max(list)
	sameList(t, "the list", list, before)
}
