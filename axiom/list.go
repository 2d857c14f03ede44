package axiom

import (
	"granule/api"
	"granule/desc"
	"granule/tlb"
	"granule/trace"
	"granule/walk"
)

// reads: does an event read its cell?
func reads(v api.Event) bool {
	return v.Kind == api.EvWalk1 || v.Kind == api.EvWalk2 || v.Kind == api.EvRead
}

// List: the events of cores that came to an end: core by core, step by step.
func List(t api.Test, ends []trace.Window) *Graph {
	g := &Graph{}
	for i, w := range ends[:min(len(ends), len(t.Cores))] {
		steps := w.Steps
		g.Steps = append(g.Steps, steps)
		g.first = append(g.first, make([]int, len(steps)))
		g.act = append(g.act, make([]int, len(steps)))
		for j := range steps {
			g.step(t, i, j)
		}
	}
	for d, v := range g.Events {
		if v.Kind == api.EvDrop {
			g.pairs(t, d)
		}
	}
	return g
}

// add: one event more of a core's step.
func (g *Graph) add(core, step int, v api.Event) {
	v.Core, v.Step = core, step
	g.Events = append(g.Events, v)
}

// step: the events of a core's step.
func (g *Graph) step(t api.Test, core, n int) {
	s := &g.Steps[core][n]
	g.first[core][n], g.act[core][n] = -1, -1
	if !s.Acts() {
		return
	}
	g.first[core][n] = len(g.Events)
	g.walks(t.Cores[core].Table, core, n)
	g.act[core][n] = len(g.Events)
	switch {
	case s.Instr.Op == api.Tlbi:
		g.add(core, n, api.Event{Kind: api.EvTlbi})
		for to := range t.Cores {
			if to == core || s.Instr.Kind < api.TlbiHere {
				g.add(core, n, api.Event{Kind: api.EvDrop, To: to})
			}
		}
	case s.Faults():
		g.add(core, n, api.Event{Kind: api.EvFault})
	case s.Reads():
		g.add(core, n, api.Event{Kind: api.EvRead, Addr: s.Addr, Value: s.Value})
	default:
		g.add(core, n, api.Event{Kind: api.EvWrite, Addr: s.Addr, Value: s.Value})
	}
}

// walks: the events of an access's walk.
func (g *Graph) walks(table uint64, core, n int) {
	s := &g.Steps[core][n]
	if s.Walks > 0 {
		g.add(core, n, api.Event{Kind: api.EvWalk1, Addr: desc.Slot(table, s.VA, 1), Value: s.First})
	}
	if s.Walks > 1 {
		_, a, _ := walk.First(s.First, s.VA)
		g.add(core, n, api.Event{Kind: api.EvWalk2, Addr: a, Value: s.Last})
	}
}

// pairs: of an invalidation that comes to a core, the accesses of that core whose entries it takes.
func (g *Graph) pairs(t api.Test, d int) {
	v := g.Events[d]
	flush := g.Steps[v.Core][v.Step].Flush
	if v.To >= len(g.Steps) {
		return
	}
	for n := range g.Steps[v.To] {
		s := &g.Steps[v.To][n]
		if s.Walks == 0 || s.Own {
			continue
		}
		e, ok := tlb.Fill(t.Cores[v.To].Space, s.VA, s.First, s.Last)
		if ok && tlb.Takes(flush, e) {
			g.Pairs = append(g.Pairs, [2]int{d, g.act[v.To][n]})
		}
	}
}

// at: what a list of lists has of a core's step; -1: there is none.
func at(lists [][]int, core, step int) int {
	if core < 0 || core >= len(lists) || step < 0 || step >= len(lists[core]) {
		return -1
	}
	return lists[core][step]
}

// First: the first event of a step; -1: it has none.
func (g *Graph) First(core, step int) int {
	if g == nil {
		return -1
	}
	return at(g.first, core, step)
}

// Act: a step's act; -1: it has none.
func (g *Graph) Act(core, step int) int {
	if g == nil {
		return -1
	}
	return at(g.act, core, step)
}

// Asks: how many events cores that came to an end have, and how many of them read.
func (g *Graph) Asks() (int, int) {
	if g == nil {
		return 0, 0
	}
	n := 0
	for _, v := range g.Events {
		if reads(v) {
			n++
		}
	}
	return len(g.Events), n
}
