package linear

import (
	"slices"

	"granule/api"
	"granule/axiom"
	"granule/desc"
	"granule/machine"
	"granule/tlb"
	"granule/trace"
	"granule/walk"
)

// place is a core's step; the core -1 stands for what memory began with.
type place struct {
	core int
	step int
}

// begun is where a word is from that no store has written.
var begun = place{core: -1}

// half is the first half of a walk: when it was, and where the first descriptor is from.
type half struct {
	at    int
	first place
}

// whole is a walk: its first half, and where the second descriptor is from.
type whole struct {
	half
	last place
}

// under is the first half of a walk of a core that may go on, as the machine knows it.
type under struct {
	half
	va, word uint64
	since    []api.Flush
}

// watcher does picks on a machine, and writes down where all words that are read are from.
type watcher struct {
	t       api.Test
	state   machine.State
	now     int
	written map[uint64]place      // the last store to each cell
	order   []place               // the stores, as they acted
	halves  [][]under             // of each core
	entries []map[api.Entry]whole // of each core's buffer
	own     map[place]half        // the accesses' own walks under way
	walks   map[place]whole       // of accesses that are bound
	reads   map[place]place       // of loads that have acted
	drops   map[place]map[int]int // when invalidations came to cores
}

// Observe: of picks, the candidate that the machine does with them; false: it comes to no final state.
func Observe(t api.Test, picks []api.Pick) (axiom.Candidate, machine.State, bool) {
	w := watcher{t: t, state: machine.Begin(t), written: map[uint64]place{}, own: map[place]half{}, walks: map[place]whole{}, reads: map[place]place{}, drops: map[place]map[int]int{}}
	w.halves = make([][]under, len(t.Cores))
	for range t.Cores {
		w.entries = append(w.entries, map[api.Entry]whole{})
	}
	for _, p := range picks {
		if next, ok := machine.Do(t, w.state, p); ok {
			w.now++
			w.pick(p)
			w.state = next
		}
	}
	if !machine.Final(t, w.state) {
		return axiom.Candidate{}, w.state, false
	}
	return w.candidate(), w.state, true
}

// source: where what a cell holds is from.
func (w *watcher) source(a uint64) place {
	if x, ok := w.written[a]; ok {
		return x
	}
	return begun
}

// pick: one that is being done, of the state ahead of it.
func (w *watcher) pick(p api.Pick) {
	c := w.state.Cores[p.Core]
	x := place{core: p.Core, step: p.Step}
	switch p.Kind {
	case api.PickWalk:
		w.begin(p.Core, uint64(p.Arg)<<api.PageBits)
	case api.PickStep:
		w.goOn(p.Core, c.Walks[p.Arg])
	case api.PickEvict:
		delete(w.entries[p.Core], c.Buffer.Entries()[p.Arg])
	case api.PickBind:
		w.walks[x] = w.entries[p.Core][c.Buffer.Entries()[p.Arg]]
	case api.PickOwn:
		w.byItself(x)
	case api.PickAct:
		w.act(x)
	case api.PickDrop:
		w.drop(x, p.Arg)
	}
}

// first: a first descriptor that is read now, and the half of the walk.
func (w *watcher) first(core int, va uint64) (uint64, half) {
	a := desc.Slot(w.t.Cores[core].Table, va, 1)
	return w.state.Memory.Read(a), half{at: w.now, first: w.source(a)}
}

// begin: a walk for a page.
func (w *watcher) begin(core int, va uint64) {
	word, h := w.first(core, va)
	if _, _, more := walk.First(word, va); more {
		w.halves[core] = append(w.halves[core], under{half: h, va: va, word: word})
		return
	}
	w.fill(core, va, word, 0, whole{half: h, last: begun})
}

// fill: an entry comes into a buffer.
func (w *watcher) fill(core int, va, first, last uint64, by whole) {
	if e, ok := tlb.Fill(w.t.Cores[core].Space, va, first, last); ok {
		w.entries[core][e] = by
	}
}

// goOn: the second half of a walk: of the last one that began as the machine knows it.
func (w *watcher) goOn(core int, x machine.Walk) {
	_, a, _ := walk.First(x.First, x.VA)
	for _, h := range slices.Backward(w.halves[core]) {
		if h.va == x.VA && h.word == x.First && sameSet(h.since, x.Since) {
			w.fill(core, x.VA, x.First, w.state.Memory.Read(a), whole{half: h.half, last: w.source(a)})
			return
		}
	}
}

// sameSet: have two lists the same invalidations, the second one each once?
func sameSet(a, b []api.Flush) bool {
	for _, f := range a {
		if !slices.Contains(b, f) {
			return false
		}
	}
	for _, f := range b {
		if !slices.Contains(a, f) {
			return false
		}
	}
	return true
}

// byItself: an access walks by itself, one half at a time.
func (w *watcher) byItself(x place) {
	steps := machine.Window(w.t, w.state, x.core).Steps
	n, va := len(trace.Accesses(steps[:x.step])), steps[x.step].VA
	if own := w.state.Cores[x.core].Own; n < len(own) && own[n].Open {
		_, a, _ := walk.First(own[n].First, va)
		w.walks[x] = whole{half: w.own[x], last: w.source(a)}
		return
	}
	_, h := w.first(x.core, va)
	w.own[x] = h
	w.walks[x] = whole{half: h, last: begun}
}

// act: a load or a store.
func (w *watcher) act(x place) {
	steps := machine.Window(w.t, w.state, x.core).Steps
	s := &steps[x.step]
	switch {
	case s.Writes():
		w.written[s.Addr] = x
		w.order = append(w.order, x)
	case s.Reads():
		w.reads[x] = w.source(s.Addr)
		acted := w.state.Cores[x.core].Acted
		for i := x.step - 1; i >= 0; i-- {
			if steps[i].Writes() && steps[i].Bound && steps[i].Addr == s.Addr {
				if i >= len(acted) || !acted[i] {
					w.reads[x] = place{core: x.core, step: i}
				}
				break
			}
		}
	}
}

// drop: an invalidation comes to a core.
func (w *watcher) drop(x place, to int) {
	f := machine.Window(w.t, w.state, x.core).Steps[x.step].Flush
	if w.drops[x] == nil {
		w.drops[x] = map[int]int{}
	}
	w.drops[x][to] = w.now
	for e := range w.entries[to] {
		if tlb.Takes(f, e) {
			delete(w.entries[to], e)
		}
	}
	for n := range w.halves[to] {
		h := &w.halves[to][n]
		if !slices.Contains(h.since, f) {
			h.since = append(h.since, f)
		}
	}
}

// candidate: of a final state, what the machine did.
func (w *watcher) candidate() axiom.Candidate {
	var c axiom.Candidate
	var ends []trace.Window
	for core := range w.t.Cores {
		end := machine.Window(w.t, w.state, core)
		ends = append(ends, end)
		c.Answers = append(c.Answers, answers(end.Steps))
	}
	g := axiom.List(w.t, ends)
	for _, v := range g.Events {
		c.From = append(c.From, w.from(g, v))
	}
	for _, x := range w.order {
		c.Order = append(c.Order, g.Act(x.core, x.step))
	}
	for _, p := range g.Pairs {
		d, a := g.Events[p[0]], g.Events[p[1]]
		came := w.drops[place{core: d.Core, step: d.Step}][d.To]
		c.After = append(c.After, came < w.walks[place{core: a.Core, step: a.Step}].at)
	}
	return c
}

// answers: what accesses came to.
func answers(steps []trace.Step) []trace.Answer {
	var list []trace.Answer
	for _, n := range trace.Accesses(steps) {
		s := &steps[n]
		a := trace.Answer{First: s.First, Last: s.Last}
		if s.Reads() {
			a.Value = s.Value
		}
		list = append(list, a)
	}
	return list
}

// from: the write that an event reads from; -1, where it reads what memory began with, or nothing.
func (w *watcher) from(g *axiom.Graph, v api.Event) int {
	x, source := place{core: v.Core, step: v.Step}, begun
	switch v.Kind {
	case api.EvWalk1:
		source = w.walks[x].first
	case api.EvWalk2:
		source = w.walks[x].last
	case api.EvRead:
		source = w.reads[x]
	}
	return g.Act(source.core, source.step)
}
