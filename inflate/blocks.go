package inflate

import (
	"punnet/alpha"
	"punnet/api"
	"punnet/decode"
	"punnet/runs"
)

// readBlock reads the mark of the final block, and the kind: together, as neither of them alone can be wrong.
func (m *Machine) readBlock() bool {
	bits, all := m.in.Bits(3)
	if !all {
		return false
	}
	m.final = bits&1 == 1
	switch bits >> 1 {
	case 0:
		m.in.Align()
		m.state = atStored
	case 1:
		m.lits, _ = decode.New(alpha.FixedLits(), decode.Whole)
		m.dists, _ = decode.New(alpha.FixedDists(), decode.Whole)
		m.state = atSymbol
	case 2:
		m.state = atCounts
	default:
		return m.fail(api.ErrBlock)
	}
	return true
}

func (m *Machine) endBlock() bool {
	m.state = atBlock
	if m.final {
		m.in.Align()
		m.state = atEnd
	}
	return true
}

func (m *Machine) readStored() bool {
	bits, all := m.in.Bits(32)
	if !all {
		return false
	}
	if bits&0xffff != ^bits>>16 {
		return m.fail(api.ErrStored)
	}
	m.stored = int(bits & 0xffff)
	m.state = atBytes
	return true
}

func (m *Machine) readBytes() bool {
	if m.stored == 0 {
		return m.endBlock()
	}
	if m.in.Left() == 0 {
		return false
	}
	if m.room() == 0 {
		return m.fail(api.ErrLimit)
	}
	b := m.in.Bytes(min(m.stored, m.room()))
	m.back.Put(b...)
	m.out = append(m.out, b...)
	m.stored -= len(b)
	return true
}

func (m *Machine) readCounts() bool {
	bits, all := m.in.Bits(14)
	if !all {
		return false
	}
	m.litCount = int(bits&31) + 257
	m.distCount = int(bits>>5&31) + 1
	m.shortCount = int(bits>>10) + 4
	if m.litCount > alpha.Lits || m.distCount > alpha.Dists {
		return m.fail(api.ErrCounts)
	}
	m.state = atShort
	return true
}

// readShort reads the length of one code of code lengths.
func (m *Machine) readShort() bool {
	bits, all := m.in.Bits(3)
	if !all {
		return false
	}
	m.shorts = append(m.shorts, int(bits))
	if len(m.shorts) < m.shortCount {
		return true
	}
	lens := make([]int, alpha.Lens)
	for i, n := range m.shorts {
		lens[alpha.Order(i)] = n
	}
	table, e := decode.New(lens, decode.Whole)
	if e != api.OK {
		return m.fail(e)
	}
	m.short = table
	m.state = atRun
	return true
}

func (m *Machine) readRun() bool {
	symbol, e := m.short.Next(m.in)
	if e == api.ErrShort {
		return false
	}
	if e != api.OK {
		return m.fail(e)
	}
	m.symbol = symbol
	m.state = atRepeat
	return true
}

func (m *Machine) readRepeat() bool {
	extra, all := m.in.Bits(runs.Bits(m.symbol))
	if !all {
		return false
	}
	r := runs.Run{Sym: m.symbol, Extra: int(extra)}
	lens, e := runs.Add(m.lens, r, m.litCount+m.distCount)
	if e != api.OK {
		return m.fail(e)
	}
	m.lens = lens
	m.state = atRun
	if len(lens) == m.litCount+m.distCount {
		return m.openCodes()
	}
	return true
}

// openCodes makes the tables of a dynamic block of all lengths.
func (m *Machine) openCodes() bool {
	lits, dists := m.lens[:m.litCount], m.lens[m.litCount:]
	if lits[alpha.End] == 0 {
		return m.fail(api.ErrLens)
	}
	var e api.Errno
	if m.lits, e = decode.New(lits, decode.One); e != api.OK {
		return m.fail(e)
	}
	if m.dists, e = decode.New(dists, decode.Any); e != api.OK {
		return m.fail(e)
	}
	m.shorts, m.lens = nil, nil
	m.state = atSymbol
	return true
}
