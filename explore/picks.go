package explore

import (
	"slices"

	"granule/api"
	"granule/machine"
	"granule/regs"
	"granule/trace"
)

// acted: has a core's step acted?
func acted(c *machine.Core, step int) bool { return step < len(c.Acted) && c.Acted[step] }

// over: is there nothing more for a core to do than to take invalidations?
func over(c *machine.Core, w *trace.Window) bool {
	if !w.End {
		return false
	}
	for i := range w.Steps {
		if w.Steps[i].Acts() && !acted(c, i) {
			return false
		}
	}
	return true
}

// bound: is there no access of a window any more, and will there be none, that may yet go by an entry?
func bound(w *trace.Window) bool {
	if !w.End {
		return false
	}
	for i := range w.Steps {
		if regs.Access(w.Steps[i].Instr) && !w.Steps[i].Bound {
			return false
		}
	}
	return true
}

// walked: is there no access of a core any more that a walk may be for?
func walked(c *machine.Core, w *trace.Window) bool {
	if !w.End {
		return false
	}
	for i := range w.Steps {
		if regs.Access(w.Steps[i].Instr) && !acted(c, i) {
			return false
		}
	}
	return true
}

// fork: is the last step of a window a branch whose way isn't known?
func fork(w *trace.Window) bool {
	n := len(w.Steps)
	return n > 0 && regs.Branch(w.Steps[n-1].Instr) && !w.Steps[n-1].Settled
}

// waiting: the step of a window that is an access without descriptors, whose address is known; -1: there is none. It can only be the last one.
func waiting(w *trace.Window) int {
	n := len(w.Steps) - 1
	if n >= 0 && regs.Access(w.Steps[n].Instr) && w.Steps[n].Placed && !w.Steps[n].Bound {
		return n
	}
	return -1
}

// Picks: those that may be done in a state, and matter: with walks for some pages alone, and without what merely takes entries out.
func Picks(t api.Test, s machine.State, pages []int) []api.Pick {
	var list []api.Pick
	for core := range min(len(t.Cores), len(s.Cores)) {
		c, w := &s.Cores[core], machine.Window(t, s, core)
		list = append(list, api.Pick{Kind: api.PickFetch, Core: core})
		if fork(&w) {
			list = append(list, api.Pick{Kind: api.PickFetch, Core: core, Arg: 1})
		}
		if !walked(c, &w) {
			list = append(list, walks(core, c, pages)...)
		}
		list = append(list, binds(t.Cores[core].Space, core, c, &w)...)
		if n := waiting(&w); n >= 0 {
			list = append(list, api.Pick{Kind: api.PickOwn, Core: core, Step: n})
		}
		list = append(list, acts(core, c, &w)...)
		list = append(list, drops(core, c)...)
	}
	return list
}

// walks: for some pages, and all that go on.
func walks(core int, c *machine.Core, pages []int) []api.Pick {
	var list []api.Pick
	for _, p := range pages {
		list = append(list, api.Pick{Kind: api.PickWalk, Core: core, Arg: p})
	}
	for n := range c.Walks {
		list = append(list, api.Pick{Kind: api.PickStep, Core: core, Arg: n})
	}
	return list
}

// binds: of the access that waits, with all entries that serve it.
func binds(space, core int, c *machine.Core, w *trace.Window) []api.Pick {
	step := waiting(w)
	if step < 0 {
		return nil
	}
	var list []api.Pick
	all := c.Buffer.Entries()
	for _, e := range c.Buffer.Serving(space, w.Steps[step].VA) {
		list = append(list, api.Pick{Kind: api.PickBind, Core: core, Step: step, Arg: slices.Index(all, e)})
	}
	return list
}

// acts: of all steps that are acts, and haven't acted.
func acts(core int, c *machine.Core, w *trace.Window) []api.Pick {
	var list []api.Pick
	for i := range w.Steps {
		x := &w.Steps[i]
		if x.Acts() && !acted(c, i) && (x.Bound || !regs.Access(x.Instr)) {
			list = append(list, api.Pick{Kind: api.PickAct, Core: core, Step: i})
		}
	}
	return list
}

// drops: of all invalidations that have yet to come to cores.
func drops(core int, c *machine.Core) []api.Pick {
	var list []api.Pick
	for i, left := range c.Left {
		for _, to := range left {
			list = append(list, api.Pick{Kind: api.PickDrop, Core: core, Step: i, Arg: to})
		}
	}
	return list
}
