// Package layout is chapter 7's parser, as far as texts and bytes have their lines alike. See shared/doc/07-ascii.md and shared/doc/08-binary.md.
package layout

import (
	"iter"
	"slices"

	"astrarium/api"
	"astrarium/fault"
	"astrarium/lits"
	"astrarium/scan"
	"astrarium/topo"
)

// The letters of a memory's lines.
const (
	MemoryWord = "m"
	ReadWord   = "r"
	WriteWord  = "w"
)

// What stands between numbers, behind each line, and behind all, if something does.
const (
	Space    = " "
	LineFeed = "\n"
	comment  = "c" + LineFeed
)

// maxNumber is the greatest number that a line may tell.
const maxNumber = 1 << 40

// Parser reads lines, one behind the other, into a netlist.
type Parser struct {
	*scan.Reader
	Netlist api.Net
	err     error // why it is refused: from then on nothing is read, and all numbers are 0
}

// Counts is what the first line tells beside Vars: how many there are of each.
type Counts struct {
	Inputs, Latches, Outputs, Ands, Bads, Constraints, Mems int
}

// New is a parser of these bytes.
func New(b []byte) *Parser {
	return &Parser{Reader: scan.New(b)}
}

// Told is the netlist that was read; else the fault, and its offset.
func (p *Parser) Told() (api.Net, int, api.Fault) {
	if p.err != nil {
		kind, at := fault.Told(p.err)
		return api.Net{}, at, kind
	}
	return p.Netlist, 0, api.OK
}

// Each gives what each of so many parts tells, one behind the other, that are read by read. A part with which something is wrong is not given, and is the last: what is wrong is wrapped at its begin.
func Each[T any](p *Parser, count int, read func() T) iter.Seq[T] {
	return func(yield func(T) bool) {
		for range count {
			if p.err != nil { // what was read between the parts may be wrong, too
				return
			}
			begin := p.At()
			told := read()
			p.err = fault.Wrap(p.err, begin)
			if p.err != nil || !yield(told) {
				return
			}
		}
	}
}

// Lines gives, as Each does, what each of so many lines tells, whose words are read by words.
func Lines[T any](p *Parser, count int, words func() T) iter.Seq[T] {
	return Each(p, count, func() T {
		told := words()
		p.Expect(LineFeed)
		return told
	})
}

// First reads the words of the first line, which begins with plain; with withMems, if there are memories.
func (p *Parser) First(plain, withMems string) Counts {
	var count Counts
	mems := p.begin(plain, withMems)
	p.Netlist.Vars = p.within(0, api.MaxVars, api.Limit)
	count.Inputs = p.nextWithin(0, api.MaxVars, api.Limit)
	count.Latches = p.nextWithin(0, api.MaxVars, api.Limit)
	count.Outputs = p.nextAnyNumber()
	count.Ands = p.nextWithin(0, api.MaxVars, api.Limit)
	count.Bads = p.nextAnyNumber()
	count.Constraints = p.nextWithin(0, api.MaxLits-count.Outputs-count.Bads, api.Limit)
	if mems {
		count.Mems = p.nextWithin(1, api.MaxMems, api.Limit)
	}
	return count
}

// begin reads the first word, and the space behind it; it tells whether there are memories by it.
func (p *Parser) begin(plain, withMems string) bool {
	if _, kind := p.Want(plain + Space); kind == api.OK {
		return false
	}
	if _, kind := p.Want(withMems + Space); kind != api.OK {
		p.Refuse(api.Header, 0)
	}
	return true
}

// Latch reads Next, and the start, of the latch of the variable v.
func (p *Parser) Latch(v int) api.Latch {
	next := p.Literal()
	p.Expect(Space)
	return api.Latch{Var: v, Next: next, Init: p.start(v)}
}

// start reads with what the latch of the variable v begins.
func (p *Parser) start(v int) int {
	at := p.At()
	switch number := p.anyNumber(); number {
	case 0, 1:
		return number
	case lits.Make(v, false):
		return api.Any
	}
	p.Refuse(api.Illegal, at)
	return 0
}

// Singles reads the lines that have one literal each: of Outputs, Bads and Constraints.
func (p *Parser) Singles(count Counts) {
	n := &p.Netlist
	n.Outputs = slices.Collect(Lines(p, count.Outputs, p.Literal))
	n.Bads = slices.Collect(Lines(p, count.Bads, p.Literal))
	n.Constraints = slices.Collect(Lines(p, count.Constraints, p.Literal))
}

// Memory reads the words of a memory's own line; the memory has its ports, which are empty yet.
func (p *Parser) Memory() api.Memory {
	var m api.Memory
	p.Expect(MemoryWord)
	m.Addr = p.nextWithin(1, api.MaxAddr, api.Width)
	m.Word = p.nextWithin(1, api.MaxWord, api.Width)
	m.Any = p.nextWithin(0, 1, api.Number) == 1
	m.Reads = make([]api.Read, p.nextWithin(0, api.MaxPorts, api.Limit))
	m.Writes = make([]api.Write, p.nextWithin(0, api.MaxPorts, api.Limit))
	return m
}

// Ports reads the lines of a memory's ports, and tells the memory with them. What stands behind an r and ahead of the address is read by define, which tells the first of so many variables.
func (p *Parser) Ports(m api.Memory, define func(count int) int) api.Memory {
	m.Reads = slices.Collect(Lines(p, len(m.Reads), func() api.Read {
		p.Expect(ReadWord)
		return api.Read{Var: define(m.Word), Addr: p.nextLiterals(m.Addr)}
	}))
	m.Writes = slices.Collect(Lines(p, len(m.Writes), func() api.Write {
		p.Expect(WriteWord)
		return api.Write{On: p.NextLiteral(), Addr: p.nextLiterals(m.Addr), Data: p.nextLiterals(m.Word)}
	}))
	return m
}

// End reads what stands behind all, and asks what only the whole can tell.
func (p *Parser) End() {
	if p.err != nil {
		return
	}
	behind := p.At()
	if _, kind := p.Want(comment); kind != api.OK && p.Left() > 0 {
		p.Refuse(api.Trailing, behind)
	}
	p.Refuse(topo.Check(p.Netlist), behind)
}

// nextLiterals reads so many literals, each behind a space.
func (p *Parser) nextLiterals(count int) []int {
	var list []int
	for range count {
		list = append(list, p.NextLiteral())
	}
	return list
}

// NextLiteral reads a space and a literal.
func (p *Parser) NextLiteral() int {
	p.Expect(Space)
	return p.Literal()
}

// Literal reads a literal of whatever variable.
func (p *Parser) Literal() int {
	return p.within(0, lits.Make(p.Netlist.Vars, true), api.Dangling)
}

// nextAnyNumber reads a space and a number.
func (p *Parser) nextAnyNumber() int {
	p.Expect(Space)
	return p.anyNumber()
}

// anyNumber reads whatever number a line may tell.
func (p *Parser) anyNumber() int {
	return p.within(0, maxNumber, api.Number)
}

// nextWithin reads a space and a number, as within does.
func (p *Parser) nextWithin(least, most int, kind api.Fault) int {
	p.Expect(Space)
	return p.within(least, most, kind)
}

// within reads a number, which is refused by that kind, if it is not from least to most.
func (p *Parser) within(least, most int, kind api.Fault) int {
	if p.err != nil {
		return 0
	}
	at := p.At()
	number, scanned := p.Number(maxNumber)
	switch {
	case scanned != api.OK:
		p.Refuse(scanned, at)
		return 0
	case number < least || number > most:
		p.Refuse(kind, at)
		return 0
	}
	return number
}

// Expect reads the text s, which must come.
func (p *Parser) Expect(s string) {
	if p.err != nil {
		return
	}
	at, kind := p.Want(s)
	p.Refuse(kind, at)
}

// Refuse keeps why the netlist is refused, and where: only what comes first counts, and OK is nothing.
func (p *Parser) Refuse(kind api.Fault, at int) {
	if p.err == nil {
		p.err = fault.New(kind, at)
	}
}
