package axiom

import (
	"granule/api"
	"granule/order"
	"granule/rel"
)

// relate: which events of a candidate come ahead of which.
func (g *Graph) relate(c Candidate) {
	g.Rel, _ = rel.New(len(g.Events))
	for core := range g.Steps {
		acts := order.Acts(g.Steps[core])
		for n, j := range acts {
			g.within(core, j)
			for _, i := range acts[:n] {
				g.inCore(core, i, j)
			}
		}
	}
	place := g.places(c.Order)
	g.writes(c.Order)
	for v := range g.Events {
		if reads(g.Events[v]) {
			g.reading(c, place, v)
		}
	}
	for n, p := range g.Pairs {
		v := g.Events[p[1]]
		if c.After[n] {
			g.Rel.Add(p[0], g.First(v.Core, v.Step))
		} else {
			g.Rel.Add(p[1], p[0])
		}
	}
}

// within: the events of one step.
func (g *Graph) within(core, n int) {
	act := g.Act(core, n)
	for v := g.First(core, n); v < act; v++ {
		g.Rel.Add(v, v+1)
	}
	for v := range g.drops(core, n) {
		g.Rel.Add(act, act+1+v)
	}
}

// drops: to how many cores a step's invalidation comes; they follow its act.
func (g *Graph) drops(core, n int) int {
	act, k := g.Act(core, n), 0
	if g.Events[act].Kind != api.EvTlbi {
		return 0
	}
	for v := act + 1; v < len(g.Events) && g.Events[v].Kind == api.EvDrop && g.Events[v].Core == core && g.Events[v].Step == n; v++ {
		k++
	}
	return k
}

// to: an event comes ahead of a step; of one that walks by itself, ahead of its walk, too.
func (g *Graph) to(x, core, j int) {
	g.Rel.Add(x, g.Act(core, j))
	if g.Steps[core][j].Own {
		g.Rel.Add(x, g.First(core, j))
	}
}

// inCore: what step i of a core must come ahead with of step j.
func (g *Graph) inCore(core, i, j int) {
	steps, act := g.Steps[core], g.Act(core, i)
	if order.Before(steps, i, j) {
		g.to(act, core, j)
	}
	if order.Walked(steps, i, j) {
		g.to(act-1, core, j)
	}
	if order.Dropped(steps, i, j) {
		for v := range g.drops(core, i) {
			g.to(act+1+v, core, j)
		}
	}
}

// places: of each event where it stands among the writes, from 1 on; 0 of the others.
func (g *Graph) places(list []int) []int {
	place := make([]int, len(g.Events))
	for n, w := range list {
		place[w] = n + 1
	}
	return place
}

// writes: the writes at one cell, one behind the other.
func (g *Graph) writes(list []int) {
	for n, w := range list {
		for _, x := range list[:n] {
			if g.Events[x].Addr == g.Events[w].Addr {
				g.Rel.Add(x, w)
			}
		}
	}
}

// reading: an event that reads, and the writes at its cell.
func (g *Graph) reading(c Candidate, place []int, v int) {
	e, from, behind := g.Events[v], c.From[v], 0
	if from >= 0 {
		behind = place[from]
		g.source(from, v)
	}
	for _, w := range c.Order[behind:] {
		if g.Events[w].Addr == e.Addr {
			g.Rel.Add(v, w)
		}
	}
	if e.Kind != api.EvRead {
		return
	}
	if n := order.Latest(g.Steps[e.Core], e.Step); n >= 0 && behind < place[g.Act(e.Core, n)] {
		g.Rel.Add(v, v)
	}
}

// source: an event reads from a write. A load may have what a store of its own core writes ahead of its act, but not ahead of what that word hangs on.
func (g *Graph) source(w, v int) {
	x, e := g.Events[w], g.Events[v]
	if e.Kind != api.EvRead || x.Core != e.Core || x.Step >= e.Step {
		g.Rel.Add(w, v)
		return
	}
	for _, n := range g.Steps[x.Core][x.Step].Data {
		g.Rel.Add(g.Act(x.Core, n), v)
	}
}
