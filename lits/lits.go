// Package lits is layer 1: literals of netlists, and of formulas. See shared/doc/01-lits.md.
package lits

import "slices"

// maxVar is the greatest variable: twice it, and 1, is still far from the end of int.
const maxVar = 1 << 60

// Make is the literal of the variable v; 0 of what is no variable, so that no bit is shifted out.
func Make(v int, neg bool) int {
	if v < 0 || v > maxVar {
		return 0
	}
	return Xor(v<<1, neg)
}

// Var is the variable of a netlist's literal.
func Var(l int) int {
	return l >> 1
}

// Neg tells whether a netlist's literal is negated.
func Neg(l int) bool {
	return l&1 == 1
}

// Not is the other literal of the same variable.
func Not(l int) int {
	return l ^ 1
}

// Xor is Not of l, if neg is true; else l itself.
func Xor(l int, neg bool) int {
	if neg {
		return Not(l)
	}
	return l
}

// Signed is the formula's literal of a netlist's: 0 of both 0 and 1, since 0 has no sign.
func Signed(l int) int {
	if Neg(l) {
		return -Var(l)
	}
	return Var(l)
}

// Plain is the netlist's literal of a formula's.
func Plain(s int) int {
	if s < -maxVar { // the least int has no number that is its negation
		return 0
	}
	if s < 0 {
		return Make(-s, true)
	}
	return Make(s, false)
}

// Sort is another list, of the same literals, rising, each once.
func Sort(l []int) []int {
	rest := slices.Clone(l)
	slices.Sort(rest)
	var once []int
distinct:
	for len(rest) > 0 {
		least := rest[0]
		once = append(once, least)
		for i, other := range rest {
			if other != least {
				rest = rest[i:]
				continue distinct
			}
		}
		break
	}
	return once
}

// Max is the greatest variable of a netlist's literals; 0 of none.
func Max(l []int) int {
	greatest := 0
	for _, literal := range l {
		greatest = max(greatest, Var(literal))
	}
	return greatest
}
