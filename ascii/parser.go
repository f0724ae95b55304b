package ascii

import (
	"slices"

	"astrarium/api"
	"astrarium/layout"
	"astrarium/lits"
)

// parser reads a text into a netlist.
type parser struct {
	*layout.Parser
	defined []bool // by variables: whether a definition was read
}

// text reads all.
func (p *parser) text() {
	for count := range layout.Lines(p.Parser, 1, p.first) {
		p.rest(count)
	}
}

// rest reads all behind the first line.
func (p *parser) rest(count layout.Counts) {
	n := &p.Netlist
	p.defined = make([]bool, n.Vars+1)
	n.Inputs = slices.Collect(layout.Lines(p.Parser, count.Inputs, p.input))
	n.Latches = slices.Collect(layout.Lines(p.Parser, count.Latches, p.latch))
	p.Singles(count)
	for memory := range layout.Lines(p.Parser, count.Mems, p.Memory) {
		n.Mems = append(n.Mems, p.Ports(memory, p.nextDefinition))
	}
	n.Ands = slices.Collect(layout.Lines(p.Parser, count.Ands, p.and))
	p.End()
}

// first reads the words of the first line.
func (p *parser) first() layout.Counts {
	return p.First(plainWord, memsWord)
}

// input reads the variable of an input.
func (p *parser) input() int {
	return p.definition(1)
}

// latch reads the words of a latch's line.
func (p *parser) latch() api.Latch {
	v := p.definition(1)
	p.Expect(layout.Space)
	return p.Latch(v)
}

// and reads the words of an and's line.
func (p *parser) and() api.And {
	return api.And{Var: p.definition(1), A: p.NextLiteral(), B: p.NextLiteral()}
}

// nextDefinition reads a space and a definition.
func (p *parser) nextDefinition(count int) int {
	p.Expect(layout.Space)
	return p.definition(count)
}

// definition reads the literal of the first of so many variables, one behind the other, that are defined by it.
func (p *parser) definition(count int) int {
	at := p.At()
	literal := p.Literal()
	v := lits.Var(literal)
	behind := v + count
	switch {
	case v == 0, lits.Neg(literal), behind > len(p.defined):
		p.Refuse(api.Dangling, at)
		return 0
	case slices.Contains(p.defined[v:behind], true):
		p.Refuse(api.Twice, at)
		return 0
	}
	for i := v; i < behind; i++ {
		p.defined[i] = true
	}
	return v
}
