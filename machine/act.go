package machine

import (
	"slices"

	"granule/api"
	"granule/order"
	"granule/regs"
	"granule/tlb"
	"granule/trace"
)

// act: a step acts.
func act(t api.Test, s State, p api.Pick) (State, bool) {
	c, core := s.Cores[p.Core], t.Cores[p.Core]
	steps := c.window(core).Steps
	if p.Step < 0 || p.Step >= len(steps) {
		return s, false
	}
	x := &steps[p.Step]
	if !x.Acts() || c.acted(p.Step) || regs.Access(x.Instr) && !x.Bound || !c.free(steps, p.Step) {
		return s, false
	}
	next, ok := s, true
	var left []int
	switch {
	case x.Reads():
		ok = c.load(s, steps, p.Step)
	case x.Writes():
		ok = x.Ready
		if ok {
			memory, e := s.Memory.Write(x.Addr, x.Value)
			next.Memory, ok = memory, e == api.OK
		}
	case x.Instr.Op == api.Tlbi:
		ok, left = x.Ready, targets(t, p.Core, x.Instr.Kind)
	}
	if !ok {
		return s, false
	}
	c.Acted, c.Left = copied(c.Acted, p.Step), copied(c.Left, p.Step)
	c.Acted[p.Step], c.Left[p.Step] = true, left
	if x.Reads() {
		c.forget(core)
	}
	return next.with(p.Core, c), true
}

// targets: to which cores an invalidation has to come.
func targets(t api.Test, core, kind int) []int {
	if kind >= api.TlbiHere {
		return []int{core}
	}
	list := make([]int, len(t.Cores))
	for i := range list {
		list[i] = i
	}
	return list
}

// load: an access reads, from its core's last store to its cell, while that hasn't acted; else from memory.
func (c *Core) load(s State, steps []trace.Step, step int) bool {
	v := s.Memory.Read(steps[step].Addr)
	if i := order.Latest(steps, step); i >= 0 && !c.acted(i) {
		if !steps[i].Ready {
			return false
		}
		v = steps[i].Value
	}
	n := len(trace.Accesses(steps[:step]))
	c.Got = copied(c.Got, n)
	c.Got[n].Read, c.Got[n].Value = true, v
	return true
}

// forget: what was done behind a branch that is known now, by what was read, to have been guessed wrong.
func (c *Core) forget(core api.Core) {
	steps := c.window(core).Steps
	n := len(steps)
	if n == 0 || !steps[n-1].Wrong {
		return
	}
	branches, accesses := 0, 0
	for i := range steps[:n-1] {
		if regs.Branch(steps[i].Instr) {
			branches++
		}
		if regs.Access(steps[i].Instr) {
			accesses++
		}
	}
	c.Limit = n
	c.Guesses = cut(c.Guesses, branches)
	c.Got, c.Own = cut(c.Got, accesses), cut(c.Own, accesses)
	c.Acted, c.Left = cut(c.Acted, n), cut(c.Left, n)
}

// drop: an invalidation comes to a core.
func drop(t api.Test, s State, p api.Pick) (State, bool) {
	c := s.Cores[p.Core]
	left := c.left(p.Step)
	i := slices.Index(left, p.Arg)
	if i < 0 || !c.acted(p.Step) || !there(t, s, p.Arg) {
		return s, false
	}
	steps := c.window(t.Cores[p.Core]).Steps
	if p.Step >= len(steps) || steps[p.Step].Instr.Op != api.Tlbi {
		return s, false
	}
	flush := steps[p.Step].Flush
	if s.Cores[p.Arg].uses(t.Cores[p.Arg], flush) {
		return s, false
	}
	c.Left = copied(c.Left, p.Step)
	c.Left[p.Step] = slices.Concat(left[:i], left[i+1:])
	s = s.with(p.Core, c)
	to := s.Cores[p.Arg]
	to.flushed(flush)
	return s.with(p.Arg, to), true
}

// uses: has a core an access, still to act, by an entry that an invalidation takes?
func (c Core) uses(core api.Core, f api.Flush) bool {
	steps := c.window(core).Steps
	for i := range steps {
		x := &steps[i]
		if x.Walks == 0 || x.Own || c.acted(i) {
			continue
		}
		if e, ok := tlb.Fill(core.Space, x.VA, x.First, x.Last); ok && tlb.Takes(f, e) {
			return true
		}
	}
	return false
}
