package inflate

import (
	"punnet/alpha"
	"punnet/api"
)

func (m *Machine) readSymbol() bool {
	symbol, e := m.lits.Next(m.in)
	if e == api.ErrShort {
		return false
	}
	switch {
	case e != api.OK:
		return m.fail(e)
	case symbol < alpha.End:
		return m.putByte(byte(symbol))
	case symbol == alpha.End:
		return m.endBlock()
	case symbol >= alpha.Lits:
		return m.fail(api.ErrCode)
	}
	m.symbol = symbol
	m.state = atLength
	return true
}

func (m *Machine) putByte(b byte) bool {
	if m.room() == 0 {
		return m.fail(api.ErrLimit)
	}
	m.back.Put(b)
	m.out = append(m.out, b)
	return true
}

// readLength reads the extra bits of a length.
func (m *Machine) readLength() bool {
	base, bits, _ := alpha.LengthBase(m.symbol)
	extra, all := m.in.Bits(bits)
	if !all {
		return false
	}
	m.length = base + int(extra)
	m.state = atDist
	return true
}

func (m *Machine) readDist() bool {
	symbol, e := m.dists.Next(m.in)
	if e == api.ErrShort {
		return false
	}
	if e != api.OK {
		return m.fail(e)
	}
	if symbol >= alpha.Dists {
		return m.fail(api.ErrCode)
	}
	m.symbol = symbol
	m.state = atDistance
	return true
}

// readDistance reads the extra bits of a distance, and copies the match.
func (m *Machine) readDistance() bool {
	base, bits, _ := alpha.DistBase(m.symbol)
	extra, all := m.in.Bits(bits)
	if !all {
		return false
	}
	dist := base + int(extra)
	if dist > m.back.Len() {
		return m.fail(api.ErrDist)
	}
	if m.length > m.room() {
		return m.fail(api.ErrLimit)
	}
	// Neither the distance nor the length can be wrong any more.
	b, _ := m.back.Copy(dist, m.length)
	m.out = append(m.out, b...)
	m.state = atSymbol
	return true
}
