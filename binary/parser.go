package binary

import (
	"slices"

	"astrarium/api"
	"astrarium/delta"
	"astrarium/layout"
)

// parser reads bytes into a netlist: chapter 7's lines, but for what the numbering tells.
type parser struct {
	*layout.Parser
	all     []byte
	defined int // how many variables have a definition: those up to it
}

// whole reads all.
func (p *parser) whole() {
	for count := range layout.Lines(p.Parser, 1, p.first) {
		p.rest(count)
	}
}

// rest reads all behind the first line.
func (p *parser) rest(count layout.Counts) {
	n := &p.Netlist
	for range count.Inputs {
		n.Inputs = append(n.Inputs, p.define(1))
	}
	n.Latches = slices.Collect(layout.Lines(p.Parser, count.Latches, p.latch))
	p.Singles(count)
	p.memories(count.Mems)
	if p.defined+count.Ands != n.Vars {
		p.Refuse(api.Header, 0)
	}
	n.Ands = slices.Collect(layout.Each(p.Parser, count.Ands, p.gate))
	p.End()
}

// first reads the words of the first line.
func (p *parser) first() layout.Counts {
	return p.First(plainWord, memsWord)
}

// latch reads the words of a latch's line.
func (p *parser) latch() api.Latch {
	return p.Latch(p.define(1))
}

// memories reads the lines of so many memories, and of their ports.
func (p *parser) memories(count int) {
	n := &p.Netlist
	begin := p.At()
	for memory := range layout.Lines(p.Parser, count, p.Memory) {
		data := len(memory.Reads) * memory.Word
		if data > 0 && p.defined+data > n.Vars { // where there are no data, none go beyond, be there more inputs and latches than M
			p.Refuse(api.Limit, begin)
		}
		n.Mems = append(n.Mems, p.Ports(memory, p.define))
		begin = p.At()
	}
}

// gate reads the bytes of an and.
func (p *parser) gate() api.And {
	begin := p.At()
	v := p.define(1)
	a, b, behind, kind := delta.Gate(p.all, begin, own(v))
	p.Refuse(kind, begin)
	for p.At() < behind {
		p.Byte()
	}
	return api.And{Var: v, A: a, B: b}
}

// define is the first of so many variables, which are the next ones to be defined.
func (p *parser) define(count int) int {
	first := p.defined + 1
	p.defined += count
	return first
}
