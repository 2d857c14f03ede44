package explore

import (
	"iter"
	"slices"

	"granule/api"
	"granule/machine"
	"granule/trace"
)

// run is a state with its windows, and the picks that led to it from the last one that was looked at.
type run struct {
	*search
	s     machine.State
	w     []trace.Window
	picks []api.Pick
	stale []bool // of each core: walks may find what they haven't found yet
	fresh []bool // of each core: something has changed, so that more may be done at once
}

// start: a test's first state.
func (g *search) start() *run {
	r := g.resume(item{state: g.begin})
	for i := range r.stale {
		r.stale[i], r.fresh[i] = true, true
	}
	return r
}

// resume: a state that was reached.
func (g *search) resume(x item) *run {
	r := &run{search: g, s: x.state, stale: make([]bool, len(g.t.Cores)), fresh: make([]bool, len(g.t.Cores))}
	for i := range g.t.Cores {
		r.w = append(r.w, machine.Window(g.t, x.state, i))
	}
	return r
}

// copy: one that goes on by itself.
func (r *run) copy() *run {
	other := *r
	other.w, other.picks = slices.Clone(r.w), slices.Clone(r.picks)
	other.stale, other.fresh = slices.Clone(r.stale), slices.Clone(r.fresh)
	return &other
}

// do: a pick, if it can be done.
func (r *run) do(p api.Pick) bool {
	next, ok := machine.Do(r.t, r.s, p)
	if ok {
		r.done(p, next)
	}
	return ok
}

// tried: the run behind a pick, if it can be done.
func (r *run) tried(p api.Pick) (*run, bool) {
	next, ok := machine.Do(r.t, r.s, p)
	if !ok {
		return nil, false
	}
	other := r.copy()
	other.done(p, next)
	return other, true
}

// done: a pick has led to a state. Its core's window is looked at anew, if it may be another one.
func (r *run) done(p api.Pick, next machine.State) {
	look := p.Kind == api.PickFetch || p.Kind == api.PickBind || p.Kind == api.PickOwn
	r.fresh[p.Core] = true
	switch p.Kind {
	case api.PickAct:
		x := &r.w[p.Core].Steps[p.Step]
		look = x.Reads()
		if x.Writes() && (r.table.written || r.table.cells[x.Addr] > 0) {
			for i := range r.stale {
				r.stale[i], r.fresh[i] = true, true
			}
		}
		for i := range r.fresh { // invalidations may come to it
			r.fresh[i] = r.fresh[i] || x.Instr.Op == api.Tlbi
		}
	case api.PickDrop:
		r.stale[p.Arg], r.fresh[p.Arg] = true, true
	}
	r.s = next
	r.picks = append(r.picks, p)
	if look {
		r.w[p.Core] = machine.Window(r.t, next, p.Core)
		r.learned.learn(p.Core, &r.w[p.Core])
	}
	if over(&next.Cores[p.Core], &r.w[p.Core]) {
		for i := range r.fresh { // what only this core shared with them is theirs alone now
			r.fresh[i] = true
		}
	}
}

// settle: all that may be done at once, since it never hinders anything, and whose way is known. What is behind a branch comes into the window ahead of all acts, so that no window is missed.
func (r *run) settle() {
	for {
		core := slices.Index(r.fresh, true)
		if core < 0 {
			return
		}
		r.fetch(core)
		r.walk(core)
		if r.bindNow(core) || r.actNow(core) || r.dropNow(core) {
			continue
		}
		r.fresh[core] = false
	}
}

// fetch: as far as the way is known.
func (r *run) fetch(core int) {
	for {
		w := &r.w[core]
		if w.End || fork(w) || waiting(w) >= 0 || !r.do(api.Pick{Kind: api.PickFetch, Core: core}) {
			return
		}
	}
}

// walk: for all pages; an entry more never hinders anything.
func (r *run) walk(core int) {
	if !r.stale[core] {
		return
	}
	r.stale[core] = false
	if bound(&r.w[core]) {
		return
	}
	for _, p := range r.pages[core] {
		r.do(api.Pick{Kind: api.PickWalk, Core: core, Arg: p})
	}
	for n := range r.s.Cores[core].Walks {
		r.do(api.Pick{Kind: api.PickStep, Core: core, Arg: n})
	}
}

// written: may a cell yet be written?
func (r *run) written(a uint64) bool {
	writers := r.facts.cells[a].writes
	for core := range r.w {
		if writers>>core&1 == 1 && !over(&r.s.Cores[core], &r.w[core]) {
			return true
		}
	}
	return false
}

// walking: has a core an own walk under way?
func (r *run) walking(core int) bool {
	return slices.ContainsFunc(r.s.Cores[core].Own, func(x machine.Own) bool { return x.Open })
}

// begun: may a walk for an address that began ahead of the last write to its first descriptor yet find what isn't there yet?
func (r *run) begun(core int, va uint64) bool {
	return slices.ContainsFunc(r.s.Cores[core].Walks, func(x machine.Walk) bool {
		return x.VA>>api.PageBits == va>>api.PageBits && r.written(second(x.First, va))
	})
}

// fixed: is what an address is led to by the tables never written any more, as far as it was walked for, and no walk under way that may have begun ahead of the last write? And is there an entry for that?
func (r *run) fixed(core int, va uint64) (bool, bool) {
	a, b := slots(r.t, core, va, r.s.Memory.Read)
	if r.facts.pages[int(va>>api.PageBits)]>>core&1 == 0 || r.written(a) || r.written(b) || r.walking(core) || r.begun(core, va) {
		return false, false
	}
	return true, r.kept(core, va)
}

// kept: has a core's buffer an entry for what an address is led to now?
func (r *run) kept(core int, va uint64) bool {
	a, b := slots(r.t, core, va, r.s.Memory.Read)
	first, last := r.s.Memory.Read(a), r.s.Memory.Read(b)
	for _, e := range r.s.Cores[core].Buffer.Serving(r.t.Cores[core].Space, va) {
		if e.First == first && (e.Last == last || e.Last == 0) {
			return true
		}
	}
	return false
}

// pending: may an invalidation yet come to a core while its last access waits? Those behind that access can't: they aren't fetched ahead of its entry.
func (r *run) pending(to int) bool {
	for core := range r.w {
		if r.flushes[core]>>to&1 == 0 {
			continue
		}
		c, w := &r.s.Cores[core], &r.w[core]
		if core == to && issues(c, w) || core != to && !over(c, w) {
			return true
		}
		for _, left := range c.Left {
			if slices.Contains(left, to) {
				return true
			}
		}
	}
	return false
}

// issues: has a window an invalidation that is yet to act?
func issues(c *machine.Core, w *trace.Window) bool {
	for i := range w.Steps {
		if w.Steps[i].Instr.Op == api.Tlbi && !acted(c, i) {
			return true
		}
	}
	return false
}

// bindNow: an access that has but one way to go takes it, if that can't be in the way of an invalidation: the only entry, or what its own walk finds.
func (r *run) bindNow(core int) bool {
	step := waiting(&r.w[core])
	if step < 0 {
		return false
	}
	fixed, kept := r.fixed(core, r.w[core].Steps[step].VA)
	list := binds(r.t.Cores[core].Space, core, &r.s.Cores[core], &r.w[core])
	switch {
	case !fixed:
		return false
	case len(list) == 0:
		other, ok := r.whole(api.Pick{Kind: api.PickOwn, Core: core, Step: step})
		if ok {
			*r = *other
		}
		return ok
	case len(list) > 1 || !kept:
		return false
	case !r.pending(core):
		return r.do(list[0])
	}
	other, ok := r.tried(list[0])
	if ok && other.now(core, step) && other.do(api.Pick{Kind: api.PickAct, Core: core, Step: step}) {
		*r = *other
		return true
	}
	return false
}

// alone: is a cell one that no other core that is at work reads (if it is written), or writes?
func (r *run) alone(core int, a uint64, written bool) bool {
	x := r.facts.cells[a]
	others := x.writes
	if written {
		others |= x.reads
	}
	for k := range r.w {
		if k != core && others>>k&1 == 1 && !over(&r.s.Cores[k], &r.w[k]) {
			return false
		}
	}
	return true
}

// now: may a step act as soon as it can, since that never hinders anything, and changes nothing that others see? Loads of cores that guess stay, for the sake of the windows that wrong guesses come to.
func (r *run) now(core, step int) bool {
	x := &r.w[core].Steps[step]
	switch {
	case x.Faults(), x.Instr.Op == api.Tlbi:
		return true
	case x.Reads():
		return !r.branches[core] && r.alone(core, x.Addr, false)
	case !x.Writes() || r.table.written || !r.alone(core, x.Addr, true):
		return false
	}
	return r.table.cells[x.Addr] == 0 || r.takesAway(core, step)
}

// takesAway: is a store to a second descriptor one that leaves all that others may do? They have the entries of what it replaces, and no invalidation comes to them ahead of it; nobody's own walk finds anything before it.
func (r *run) takesAway(core, step int) bool {
	cell := r.w[core].Steps[step].Addr
	for k := range r.w {
		if bound(&r.w[k]) {
			continue
		}
		for _, page := range r.pages[k] {
			va := uint64(page) << api.PageBits
			a, b := slots(r.t, k, va, r.begin.Memory.Read)
			if a == cell {
				return false
			}
			if b != cell {
				continue
			}
			r.walk(k)
			if !r.spared(core, step, k) || !r.kept(k, va) {
				return false
			}
		}
	}
	return true
}

// spared: does no invalidation come to a core ahead of a store?
func (r *run) spared(core, step, to int) bool {
	for k := range r.w {
		if r.flushes[k]>>to&1 == 0 {
			continue
		}
		for _, left := range r.s.Cores[k].Left {
			if slices.Contains(left, to) {
				return false
			}
		}
		if k != core && !over(&r.s.Cores[k], &r.w[k]) || k == core && !r.fenced(core, step) {
			return false
		}
	}
	return true
}

// fenced: are all invalidations of a core that haven't acted behind a Dsb that is behind a step?
func (r *run) fenced(core, step int) bool {
	c, w := &r.s.Cores[core], &r.w[core]
	for i := range w.Steps {
		switch op := w.Steps[i].Instr.Op; {
		case op == api.Tlbi && !acted(c, i):
			return false
		case op == api.Dsb && i > step:
			return true
		}
	}
	return w.End
}

// actNow: all steps that may act as soon as they can.
func (r *run) actNow(core int) bool {
	done := false
	for _, p := range acts(core, &r.s.Cores[core], &r.w[core]) {
		if r.now(core, p.Step) && r.do(p) {
			done = true
		}
	}
	return done
}

// dropNow: invalidations come to a core at once, where nothing is lost by them.
func (r *run) dropNow(to int) bool {
	for core := range r.w {
		for _, p := range drops(core, &r.s.Cores[core]) {
			if p.Arg != to {
				continue
			}
			other, ok := r.tried(p)
			if !ok {
				continue
			}
			other.walk(to)
			if other.keeps(r, to) {
				*r = *other
				return true
			}
		}
	}
	return false
}

// keeps: has a core all that matters of the buffer and of the walks that it had?
func (r *run) keeps(old *run, core int) bool {
	now, was := &r.s.Cores[core], &old.s.Cores[core]
	if bound(&r.w[core]) {
		return true
	}
	for _, e := range was.Buffer.Entries() {
		if !now.Buffer.Has(e) {
			return false
		}
	}
	for _, x := range was.Walks {
		if !slices.ContainsFunc(now.Walks, func(y machine.Walk) bool { return better(y, x) }) {
			return false
		}
	}
	return true
}

// successors: the states behind each pick that has to be tried. A branch whose way isn't known is guessed first, both ways; what is behind a wrong guess is left out, as what is behind the right one shows all that comes of it.
func (r *run) successors() iter.Seq[*run] {
	return func(yield func(*run) bool) {
		for core := range r.w {
			two := r.guesses(core)
			for _, next := range two {
				if !yield(next) {
					return
				}
			}
			if len(two) == 2 {
				return
			}
		}
		for core := range r.w {
			list := r.ways(core)
			if len(list) == 0 && r.first(core) {
				list = r.all(r.mine(core))
			}
			for _, next := range list {
				if !yield(next) {
					return
				}
			}
			if len(list) > 0 {
				return
			}
		}
		for core := range r.w {
			for _, next := range r.all(r.tries(core)) {
				if !yield(next) {
					return
				}
			}
		}
	}
}

// all: the states behind picks, but for what is behind a wrong guess.
func (r *run) all(picks []api.Pick) []*run {
	var list []*run
	for _, p := range picks {
		if next, ok := r.whole(p); ok && !next.left(r, p.Core) {
			list = append(list, next)
		}
	}
	return list
}

// whole: the run behind a pick; of an own walk whose first descriptor isn't written any more, behind both its halves, if it finds something.
func (r *run) whole(p api.Pick) (*run, bool) {
	next, ok := r.tried(p)
	if !ok || p.Kind != api.PickOwn || r.walking(p.Core) {
		return next, ok
	}
	a, _ := slots(r.t, p.Core, r.w[p.Core].Steps[p.Step].VA, r.begin.Memory.Read)
	if r.written(a) || waiting(&next.w[p.Core]) < 0 {
		return next, true
	}
	return next, next.do(p) && waiting(&next.w[p.Core]) < 0
}

// mine: all picks of a core, and the invalidations that may come to it.
func (r *run) mine(core int) []api.Pick {
	list := r.tries(core)
	for k := range r.w {
		if k == core {
			continue
		}
		for _, p := range drops(k, &r.s.Cores[k]) {
			if p.Arg == core {
				list = append(list, p)
			}
		}
	}
	return list
}

// first: may a core go ahead of all others, since nothing that these do ahead of it can meet what it does now?
func (r *run) first(core int) bool {
	for k := range r.w {
		if k != core && !r.apart[k][core] && !over(&r.s.Cores[k], &r.w[k]) && (r.changes[core] || !r.waitsFor(k, core)) {
			return false
		}
	}
	return true
}

// waitsFor: is all that a core has yet to do behind a Dsb that waits for an invalidation to come to another one?
func (r *run) waitsFor(k, core int) bool {
	c, w := &r.s.Cores[k], &r.w[k]
	waits := false
	for i := range w.Steps {
		x := &w.Steps[i]
		if waits && x.Instr.Op == api.Dsb {
			return true
		}
		if x.Acts() && !acted(c, i) {
			return false
		}
		waits = waits || i < len(c.Left) && slices.Contains(c.Left[i], core)
	}
	return false
}

// ways: of an access all ways to go, if these are its alone, and there will be no others: nothing else has to be tried ahead of them.
func (r *run) ways(core int) []*run {
	step := waiting(&r.w[core])
	if step < 0 || r.pending(core) {
		return nil
	}
	fixed, kept := r.fixed(core, r.w[core].Steps[step].VA)
	if !fixed {
		return nil
	}
	picks := binds(r.t.Cores[core].Space, core, &r.s.Cores[core], &r.w[core])
	if !kept {
		picks = append(picks, api.Pick{Kind: api.PickOwn, Core: core, Step: step})
	}
	var list []*run
	for _, p := range picks {
		next, ok := r.whole(p)
		if !ok { // an own walk has to wait
			return nil
		}
		list = append(list, next)
	}
	return list
}

// guesses: the ways behind a branch whose way isn't known.
func (r *run) guesses(core int) []*run {
	var list []*run
	if !fork(&r.w[core]) {
		return nil
	}
	for arg := range 2 {
		if next, ok := r.tried(api.Pick{Kind: api.PickFetch, Core: core, Arg: arg}); ok {
			list = append(list, next)
		}
	}
	return list
}

// tries: of a core all picks that may be in the way of others.
func (r *run) tries(core int) []api.Pick {
	c, w := &r.s.Cores[core], &r.w[core]
	list := binds(r.t.Cores[core].Space, core, c, w)
	if n := waiting(w); n >= 0 {
		if fixed, kept := r.fixed(core, w.Steps[n].VA); !fixed || !kept {
			list = append(list, api.Pick{Kind: api.PickOwn, Core: core, Step: n})
		}
	}
	list = append(list, acts(core, c, w)...)
	return append(list, drops(core, c)...)
}

// left: was a branch of a core guessed wrong, or is it known now where it leads, and could it have been guessed?
func (r *run) left(old *run, core int) bool {
	if r.s.Cores[core].Limit < old.s.Cores[core].Limit {
		return true
	}
	if !fork(&old.w[core]) || fork(&r.w[core]) {
		return false
	}
	_, ok := machine.Do(r.t, r.s, api.Pick{Kind: api.PickFetch, Core: core})
	return ok
}
