package block

import (
	"slices"

	"punnet/alpha"
	"punnet/api"
	"punnet/bitout"
	"punnet/canon"
	"punnet/lengths"
	"punnet/runs"
)

// The least numbers of lengths that a head tells, and the bits in which it tells how many more there are.
const (
	leastLits  = 257
	leastDists = 1
	leastShort = 4
	countBits  = 14
)

// shortBits is how many bits the length of a code of code lengths has.
const shortBits = 3

// Head describes the codes of a dynamic block.
type Head struct {
	Lits  []int
	Dists []int
	Runs  []runs.Run
	Short []int
}

// HeadOf returns the head for lengths of codes; ErrArg, ErrLens.
func HeadOf(lits, dists []int) (Head, api.Errno) {
	if len(lits) != alpha.Lits || len(dists) != alpha.Dists {
		return Head{}, api.ErrArg
	}
	h := Head{Lits: trim(lits, leastLits), Dists: trim(dists, leastDists)}
	list, e := runs.Pack(slices.Concat(h.Lits, h.Dists))
	if e != api.OK {
		return Head{}, e
	}
	h.Runs = list
	h.Short = trim(ordered(shortLens(list)), leastShort)
	return h, api.OK
}

// trim returns lengths without the zeros at the end, but at least so many.
func trim(lens []int, least int) []int {
	n := len(lens)
	for n > least && lens[n-1] == 0 {
		n--
	}
	return slices.Clone(lens[:n])
}

// shortLens returns the lengths of the codes with which runs are told.
func shortLens(list []runs.Run) []int {
	counts := make([]int, alpha.Lens)
	for _, r := range list {
		counts[r.Sym]++
	}
	// These codes must be complete, which takes two symbols at least.
	if counts[list[0].Sym] == len(list) {
		counts[(list[0].Sym+1)%alpha.Lens]++
	}
	lens, _ := lengths.Make(counts, 1<<shortBits-1)
	return lens
}

// ordered returns the lengths of all symbols in the order in which they are told.
func ordered(lens []int) []int {
	list := make([]int, alpha.Lens)
	for i := range list {
		list[i] = lens[alpha.Order(i)]
	}
	return list
}

// codeLens returns the lengths of the codes of code lengths by their symbols.
func (h Head) codeLens() []int {
	lens := make([]int, alpha.Lens)
	for i, n := range h.Short[:min(len(h.Short), alpha.Lens)] {
		lens[alpha.Order(i)] = n
	}
	return lens
}

// Bits returns how many bits a block has between its kind and its symbols.
func (h Head) Bits() int {
	lens := h.codeLens()
	sum := countBits + shortBits*len(h.Short)
	for _, r := range h.Runs {
		if bits := runs.Bits(r.Sym); bits >= 0 {
			sum += lens[r.Sym] + bits
		}
	}
	return sum
}

func (h Head) put(w *bitout.Writer) {
	w.Put(uint32(len(h.Lits)-leastLits), 5)
	w.Put(uint32(len(h.Dists)-leastDists), 5)
	w.Put(uint32(len(h.Short)-leastShort), 4)
	for _, n := range h.Short {
		w.Put(uint32(n), shortBits)
	}
	lens := h.codeLens()
	codes, _ := canon.Codes(lens)
	for _, r := range h.Runs {
		w.Put(codes[r.Sym], lens[r.Sym])
		w.Put(uint32(r.Extra), runs.Bits(r.Sym))
	}
}
