package explore

import (
	"maps"
	"math/bits"
	"slices"

	"granule/api"
	"granule/field"
	"granule/trace"
)

// sharers are the cores, a bit each, that read a cell, and that write it.
type sharers struct {
	reads  int
	writes int
}

// facts are what a search may rely on: the pages that accesses go to, of which cores (a bit each), and which cores' accesses go to which cells. A search that finds more is done again with what it found, until it finds no more: nothing was relied on then that isn't so.
type facts struct {
	pages map[int]int
	cells map[uint64]sharers
}

func noFacts() facts { return facts{pages: map[int]int{}, cells: map[uint64]sharers{}} }

func (f facts) copy() facts { return facts{pages: maps.Clone(f.pages), cells: maps.Clone(f.cells)} }

// size: how much is known. It only grows.
func (f facts) size() int {
	n := 0
	for _, cores := range f.pages {
		n += bits.OnesCount(uint(cores))
	}
	for _, x := range f.cells {
		n += bits.OnesCount(uint(x.reads)) + bits.OnesCount(uint(x.writes))
	}
	return n
}

// list: the pages, rising.
func (f facts) list() []int { return slices.Sorted(maps.Keys(f.pages)) }

// of: the pages of a core, rising.
func (f facts) of(core int) []int {
	var list []int
	for _, page := range f.list() {
		if f.pages[page]>>core&1 == 1 {
			list = append(list, page)
		}
	}
	return list
}

// learn: what a core's window tells.
func (f facts) learn(core int, w *trace.Window) {
	for i := range w.Steps {
		s := &w.Steps[i]
		if !s.Placed {
			continue
		}
		page := int(s.VA >> api.PageBits)
		if f.pages[page]>>core&1 == 0 {
			f.pages[page] |= 1 << core
		}
		if !s.Bound || s.Faults() {
			continue
		}
		x := f.cells[s.Addr]
		y := x
		if s.Reads() {
			y.reads |= 1 << core
		} else {
			y.writes |= 1 << core
		}
		if x != y {
			f.cells[s.Addr] = y
		}
	}
}

// table is what a search knows of the tables by its facts: the cells that walks read, and whether first descriptors are written, so that these cells can't be told.
type table struct {
	cells   map[uint64]int
	written bool
}

// second: the cell of an address's second descriptor, if the first one leads to a table.
func second(first, va uint64) uint64 {
	return field.Get(first, api.PABits-1, api.PageBits)<<api.PageBits + 8*uint64(field.Slot(va, 2))
}

// slots: the cells of both descriptors of an address, by what cells hold.
func slots(t api.Test, core int, va uint64, held func(uint64) uint64) (uint64, uint64) {
	first := t.Cores[core].Table + 8*uint64(field.Slot(va, 1))
	return first, second(held(first), va)
}

// tables: by facts.
func (f facts) tables(t api.Test, begin func(uint64) uint64) table {
	x := table{cells: map[uint64]int{}}
	for core := range t.Cores {
		for _, page := range f.of(core) {
			a, b := slots(t, core, uint64(page)<<api.PageBits, begin)
			x.cells[a], x.cells[b] = 1, 1
			if f.cells[a].writes != 0 {
				x.written = true
			}
		}
	}
	return x
}

// changes: may a core change what others walk by: a cell that walks read (any cell, if first descriptors are written), or their buffers?
func (f facts) changes(core, flushes int, x table) bool {
	if flushes&^(1<<core) != 0 {
		return true
	}
	for a, by := range f.cells {
		if by.writes>>core&1 == 1 && (x.written || x.cells[a] > 0) {
			return true
		}
	}
	return false
}

// apart: does nothing that one core does ever meet what another one does, if neither changes what the other one walks by?
func (f facts) apart(k, core int) bool {
	for _, by := range f.cells {
		one, other := by.writes>>k&1, by.writes>>core&1
		if one == 1 && (by.reads|by.writes)>>core&1 == 1 || other == 1 && by.reads>>k&1 == 1 {
			return false
		}
	}
	return true
}
