package machine

import (
	"cmp"
	"slices"

	"granule/api"
	"granule/desc"
	"granule/regs"
	"granule/store"
	"granule/tlb"
	"granule/trace"
	"granule/walk"
)

// The picks of this file change one core alone. Each of them works on a copy of that core, and answers false, if it can't be done.

// fetch: the next instruction comes into the window. What the window would be with one step more tells what it is, too.
func (c *Core) fetch(core api.Core, guess bool) bool {
	n, guesses := c.Limit, c.Guesses
	steps := trace.Eval(core, c.Got, guesses, n+1).Steps
	if len(steps) < n {
		return false
	}
	if n > 0 {
		last := &steps[n-1]
		switch {
		case regs.Branch(last.Instr):
			if last.Settled {
				guess = last.Taken
			}
			guesses = copied(guesses, len(guesses))
			guesses[len(guesses)-1] = guess
			if !last.Settled {
				steps = trace.Eval(core, c.Got, guesses, n+1).Steps
			}
		case last.Faults() && !c.acted(n-1):
			return false
		}
	}
	if len(steps) != n+1 {
		return false
	}
	c.Limit, c.Guesses = n+1, guesses
	return true
}

// maxPage is the bound of the pages that walks are for.
const maxPage = 1 << (api.VABits - api.PageBits)

// begin: the first descriptor for an address, and where the second one is, if there is one.
func begin(core api.Core, m store.Memory, va uint64) (uint64, uint64, bool) {
	first := m.Read(desc.Slot(core.Table, va, 1))
	_, a, more := walk.First(first, va)
	return first, a, more
}

// walk: for a page; up to its second half, if it has one.
func (c *Core) walk(core api.Core, m store.Memory, page int) bool {
	if page < 0 || page >= maxPage {
		return false
	}
	va := uint64(page) << api.PageBits
	first, _, more := begin(core, m, va)
	if !more {
		return c.fill(core.Space, Walk{VA: va, First: first}, 0)
	}
	w := Walk{VA: va, First: first}
	i, ok := slices.BinarySearchFunc(c.Walks, w, compare)
	if ok {
		return false
	}
	list := copied(c.Walks, len(c.Walks))
	copy(list[i+1:], c.Walks[i:])
	list[i] = w
	c.Walks = list
	return true
}

// fill: a walk has come to its end: the buffer has what it found.
func (c *Core) fill(space int, w Walk, last uint64) bool {
	e, ok := tlb.Fill(space, w.VA, w.First, last)
	if !ok || c.Buffer.Has(e) {
		return false
	}
	for _, f := range w.Since {
		if tlb.Takes(f, e) {
			return false
		}
	}
	c.Buffer = c.Buffer.With(e)
	return true
}

// step: a walk goes on.
func (c *Core) step(core api.Core, m store.Memory, n int) bool {
	if n < 0 || n >= len(c.Walks) {
		return false
	}
	w := c.Walks[n]
	_, a, _ := walk.First(w.First, w.VA)
	return c.fill(core.Space, w, m.Read(a))
}

// evict: an entry goes.
func (c *Core) evict(n int) bool {
	list := c.Buffer.Entries()
	if n < 0 || n >= len(list) {
		return false
	}
	c.Buffer = c.Buffer.Without(list[n])
	return true
}

// access: of a window's accesses, the number of one that is placed and not bound; false: the step is none.
func access(steps []trace.Step, step int) (int, bool) {
	if step < 0 || step >= len(steps) || !regs.Access(steps[step].Instr) || !steps[step].Placed || steps[step].Bound {
		return 0, false
	}
	return len(trace.Accesses(steps[:step])), true
}

// know: what is known of an access from now on, and its own walk.
func (c *Core) know(n int, got trace.Got, own Own) {
	c.Got, c.Own = copied(c.Got, n), copied(c.Own, n)
	c.Got[n], c.Own[n] = got, own
}

// bind: an access goes by an entry.
func (c *Core) bind(core api.Core, step, entry int) bool {
	steps := c.window(core).Steps
	n, ok := access(steps, step)
	list := c.Buffer.Entries()
	if !ok || entry < 0 || entry >= len(list) {
		return false
	}
	e := list[entry]
	if !tlb.Serves(e, core.Space, steps[step].VA) {
		return false
	}
	c.know(n, trace.Got{Bound: true, First: e.First, Last: e.Last}, Own{})
	return true
}

// kept: may what two descriptors lead to be kept in a buffer?
func kept(first, last uint64) bool {
	d, _ := walk.Leaf(first, last)
	return desc.Kept(d)
}

// own: an access walks by itself, one descriptor at a time, and goes by what may not be kept.
func (c *Core) own(core api.Core, m store.Memory, step int) bool {
	steps := c.window(core).Steps
	n, ok := access(steps, step)
	if !ok {
		return false
	}
	steps[step].Fault.Kind = api.FaultTrans
	if !c.free(steps, step) {
		return false
	}
	va := steps[step].VA
	if n < len(c.Own) && c.Own[n].Open {
		first := c.Own[n].First
		_, a, _ := walk.First(first, va)
		c.know(n, found(first, m.Read(a)), Own{})
		return true
	}
	first, _, more := begin(core, m, va)
	switch {
	case more:
		c.know(n, trace.Got{}, Own{Open: true, First: first})
	case kept(first, 0):
		return false
	default:
		c.know(n, found(first, 0), Own{})
	}
	return true
}

// found: what an own walk knows at its end; nothing of what may be kept.
func found(first, last uint64) trace.Got {
	if kept(first, last) {
		return trace.Got{}
	}
	return trace.Got{Bound: true, First: first, Last: last}
}

// compareFlush: which of two invalidations is ahead.
func compareFlush(a, b api.Flush) int {
	return cmp.Or(cmp.Compare(a.Kind, b.Kind), cmp.Compare(a.Page, b.Page), cmp.Compare(a.Space, b.Space))
}

// compare: which of two walks is ahead.
func compare(a, b Walk) int {
	return cmp.Or(cmp.Compare(a.VA, b.VA), cmp.Compare(a.First, b.First), slices.CompareFunc(a.Since, b.Since, compareFlush))
}

// flushed: an invalidation comes to a core: its buffer is dropped, its walks know of it.
func (c *Core) flushed(f api.Flush) {
	c.Buffer = c.Buffer.Drop(f)
	list := make([]Walk, len(c.Walks))
	for n, w := range c.Walks {
		if i, ok := slices.BinarySearchFunc(w.Since, f, compareFlush); !ok {
			w.Since = slices.Concat(w.Since[:i], []api.Flush{f}, w.Since[i:])
		}
		list[n] = w
	}
	slices.SortFunc(list, compare)
	c.Walks = slices.CompactFunc(list, func(a, b Walk) bool { return compare(a, b) == 0 })
}
