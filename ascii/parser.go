package ascii

import (
	"iter"
	"slices"

	"astrarium/api"
	"astrarium/fault"
	"astrarium/lits"
	"astrarium/scan"
	"astrarium/topo"
)

// maxNumber is the greatest number that a text may tell.
const maxNumber = 1 << 40

// parser reads a text into a netlist.
type parser struct {
	*scan.Reader
	netlist api.Net
	defined []bool // by variables: whether a definition was read
	err     error  // why the text is refused: from then on nothing is read, and all numbers are 0
}

// counts is what the first line tells beside Vars: how many there are of each.
type counts struct {
	inputs, latches, outputs, ands, bads, constraints, mems int
}

// shape is what a memory's line tells: the memory without its ports, and how many these are.
type shape struct {
	api.Memory
	reads, writes int
}

func newParser(b []byte) *parser {
	return &parser{Reader: scan.New(b)}
}

// text reads all.
func (p *parser) text() {
	for count := range lines(p, 1, p.first) {
		p.rest(count)
	}
}

// rest reads all behind the first line.
func (p *parser) rest(count counts) {
	n := &p.netlist
	n.Inputs = slices.Collect(lines(p, count.inputs, p.input))
	n.Latches = slices.Collect(lines(p, count.latches, p.latch))
	n.Outputs = slices.Collect(lines(p, count.outputs, p.literal))
	n.Bads = slices.Collect(lines(p, count.bads, p.literal))
	n.Constraints = slices.Collect(lines(p, count.constraints, p.literal))
	for told := range lines(p, count.mems, p.memory) {
		n.Mems = append(n.Mems, p.ports(told))
	}
	n.Ands = slices.Collect(lines(p, count.ands, p.and))
	p.end()
}

// lines gives what each of so many lines tells, whose words are read by words. A line with which something is wrong is not given, and is the last: what is wrong is wrapped at its begin.
func lines[T any](p *parser, count int, words func() T) iter.Seq[T] {
	return func(yield func(T) bool) {
		for range count {
			if p.err != nil { // what was read between the lines may be wrong, too
				return
			}
			begin := p.At()
			told := words()
			p.expect(lineFeed)
			p.err = fault.Wrap(p.err, begin)
			if p.err != nil || !yield(told) {
				return
			}
		}
	}
}

// first reads the words of the first line.
func (p *parser) first() counts {
	var count counts
	withMems := p.begin()
	p.netlist.Vars = p.within(0, api.MaxVars, api.Limit)
	p.defined = make([]bool, p.netlist.Vars+1)
	count.inputs = p.nextWithin(0, api.MaxVars, api.Limit)
	count.latches = p.nextWithin(0, api.MaxVars, api.Limit)
	count.outputs = p.nextAnyNumber()
	count.ands = p.nextWithin(0, api.MaxVars, api.Limit)
	count.bads = p.nextAnyNumber()
	count.constraints = p.nextWithin(0, api.MaxLits-count.outputs-count.bads, api.Limit)
	if withMems {
		count.mems = p.nextWithin(1, api.MaxMems, api.Limit)
	}
	return count
}

// begin reads the first word, and the space behind it; it tells whether there are memories by it.
func (p *parser) begin() bool {
	if _, kind := p.Want(plainWord + space); kind == api.OK {
		return false
	}
	if _, kind := p.Want(memsWord + space); kind != api.OK {
		p.refuse(api.Header, 0)
	}
	return true
}

// input reads the variable of an input.
func (p *parser) input() int {
	return p.definition(1)
}

// latch reads the words of a latch's line.
func (p *parser) latch() api.Latch {
	v := p.definition(1)
	next := p.nextLiteral()
	p.expect(space)
	return api.Latch{Var: v, Next: next, Init: p.start(v)}
}

// start reads with what the latch of the variable v begins.
func (p *parser) start(v int) int {
	at := p.At()
	switch number := p.anyNumber(); number {
	case 0, 1:
		return number
	case own(v):
		return api.Any
	}
	p.refuse(api.Illegal, at)
	return 0
}

// memory reads the words of a memory's line.
func (p *parser) memory() shape {
	var told shape
	p.expect(memoryWord)
	told.Addr = p.nextWithin(1, api.MaxAddr, api.Width)
	told.Word = p.nextWithin(1, api.MaxWord, api.Width)
	told.Any = p.nextWithin(0, 1, api.Number) == 1
	told.reads = p.nextWithin(0, api.MaxPorts, api.Limit)
	told.writes = p.nextWithin(0, api.MaxPorts, api.Limit)
	return told
}

// ports reads the lines of a memory's ports, and tells the memory with them.
func (p *parser) ports(told shape) api.Memory {
	m := told.Memory
	m.Reads = slices.Collect(lines(p, told.reads, func() api.Read {
		p.expect(readWord + space)
		return api.Read{Var: p.definition(m.Word), Addr: p.nextLiterals(m.Addr)}
	}))
	m.Writes = slices.Collect(lines(p, told.writes, func() api.Write {
		p.expect(writeWord)
		return api.Write{On: p.nextLiteral(), Addr: p.nextLiterals(m.Addr), Data: p.nextLiterals(m.Word)}
	}))
	return m
}

// and reads the words of an and's line.
func (p *parser) and() api.And {
	return api.And{Var: p.definition(1), A: p.nextLiteral(), B: p.nextLiteral()}
}

// end reads what stands behind the last line, and asks what only the whole can tell.
func (p *parser) end() {
	if p.err != nil {
		return
	}
	behind := p.At()
	if _, kind := p.Want(comment); kind != api.OK && p.Left() > 0 {
		p.refuse(api.Trailing, behind)
	}
	p.refuse(topo.Check(p.netlist), behind)
}

// definition reads the literal of the first of so many variables, one behind the other, that are defined by it.
func (p *parser) definition(count int) int {
	at := p.At()
	literal := p.literal()
	v := lits.Var(literal)
	behind := v + count
	switch {
	case v == 0, lits.Neg(literal), behind > len(p.defined):
		p.refuse(api.Dangling, at)
		return 0
	case slices.Contains(p.defined[v:behind], true):
		p.refuse(api.Twice, at)
		return 0
	}
	for i := v; i < behind; i++ {
		p.defined[i] = true
	}
	return v
}

// nextLiterals reads so many literals, each behind a space.
func (p *parser) nextLiterals(count int) []int {
	var list []int
	for range count {
		list = append(list, p.nextLiteral())
	}
	return list
}

// nextLiteral reads a space and a literal.
func (p *parser) nextLiteral() int {
	p.expect(space)
	return p.literal()
}

// literal reads a literal of whatever variable.
func (p *parser) literal() int {
	return p.within(0, lits.Make(p.netlist.Vars, true), api.Dangling)
}

// nextAnyNumber reads a space and a number.
func (p *parser) nextAnyNumber() int {
	p.expect(space)
	return p.anyNumber()
}

// anyNumber reads whatever number a text may tell.
func (p *parser) anyNumber() int {
	return p.within(0, maxNumber, api.Number)
}

// nextWithin reads a space and a number, as within does.
func (p *parser) nextWithin(least, most int, kind api.Fault) int {
	p.expect(space)
	return p.within(least, most, kind)
}

// within reads a number, which is refused by that kind, if it is not from least to most.
func (p *parser) within(least, most int, kind api.Fault) int {
	if p.err != nil {
		return 0
	}
	at := p.At()
	number, scanned := p.Number(maxNumber)
	switch {
	case scanned != api.OK:
		p.refuse(scanned, at)
		return 0
	case number < least || number > most:
		p.refuse(kind, at)
		return 0
	}
	return number
}

// expect reads the text s, which must come.
func (p *parser) expect(s string) {
	if p.err != nil {
		return
	}
	at, kind := p.Want(s)
	p.refuse(kind, at)
}

// refuse keeps why the text is refused, and where: only what comes first counts, and OK is nothing.
func (p *parser) refuse(kind api.Fault, at int) {
	if p.err == nil {
		p.err = fault.New(kind, at)
	}
}
