package enum

import (
	"slices"

	"granule/api"
	"granule/axiom"
	"granule/trace"
)

// mask is a set of events.
type mask [api.MaxEvents / 64]uint64

func (m *mask) has(n int) bool { return m[n/64]>>(n%64)&1 == 1 }

// reach: of each event those that it comes ahead of, as far as has been chosen.
type reach [api.MaxEvents]mask

// add: an event comes ahead of another one; false: it goes round.
func (r *reach) add(n, a, b int) bool {
	if a == b || r[b].has(a) {
		return false
	}
	if r[a].has(b) {
		return true
	}
	more := r[b]
	more[b/64] |= 1 << (b % 64)
	for x := range n {
		if x == a || r[x].has(a) {
			for i := range more {
				r[x][i] |= more[i]
			}
		}
	}
	return true
}

// search chooses the candidates of runs that were taken: first how the writes to each cell come, then where each event reads from, then on which side of accesses invalidations come.
type search struct {
	*combiner
	g      *axiom.Graph
	ends   []trace.Window
	cells  [][]int // the writes of each cell that is written
	reads  []int   // the events that read
	from   [][]int // of each of these all that it may read from
	reach  reach
	chosen axiom.Candidate
	place  [api.MaxEvents]int // of writes, where they stand in the order, from 1 on
}

// candidates: all that are consistent of the runs that were taken.
func (x *combiner) candidates() {
	s := search{combiner: x}
	for _, w := range x.taken {
		s.ends = append(s.ends, w.end)
		s.chosen.Answers = append(s.chosen.Answers, answers(w.end))
	}
	s.g = axiom.List(x.t, s.ends)
	if len(s.g.Events) > api.MaxEvents || !s.options() || !s.base() {
		return
	}
	s.order(0)
}

// isRead: does an event read its cell?
func isRead(v api.Event) bool {
	return v.Kind == api.EvWalk1 || v.Kind == api.EvWalk2 || v.Kind == api.EvRead
}

// options: what there is to be chosen; false: an event has nothing that it may read from.
func (s *search) options() bool {
	at := map[uint64]int{}
	for w, v := range s.g.Events {
		if v.Kind != api.EvWrite {
			continue
		}
		if at[v.Addr] == 0 {
			s.cells = append(s.cells, nil)
			at[v.Addr] = len(s.cells)
		}
		s.cells[at[v.Addr]-1] = append(s.cells[at[v.Addr]-1], w)
	}
	for r, v := range s.g.Events {
		if !isRead(v) {
			continue
		}
		var list []int
		if s.begin.Read(v.Addr) == v.Value && s.latest(r) < 0 {
			list = append(list, -1)
		}
		if n := at[v.Addr]; n > 0 {
			list = append(list, s.sources(r, s.cells[n-1])...)
		}
		if len(list) == 0 {
			return false
		}
		s.reads, s.from = append(s.reads, r), append(s.from, list)
	}
	return true
}

// sources: the writes of its cell that an event may read from: none of a later step of its core.
func (s *search) sources(r int, writes []int) []int {
	var list []int
	for _, w := range writes {
		if s.g.Events[w].Value == s.g.Events[r].Value && (s.g.Events[w].Core != s.g.Events[r].Core || w < r) {
			list = append(list, w)
		}
	}
	return list
}

// latest: the last write of a load's core ahead of it to its cell; -1: there is none.
func (s *search) latest(r int) int {
	v := s.g.Events[r]
	if v.Kind != api.EvRead {
		return -1
	}
	for w := r - 1; w >= 0 && s.g.Events[w].Core == v.Core; w-- {
		if x := s.g.Events[w]; x.Kind == api.EvWrite && x.Addr == v.Addr {
			return w
		}
	}
	return -1
}

// filler: a candidate of the runs that were taken: with the first choices of all, or with the last ones.
func (s *search) filler(last bool) axiom.Candidate {
	c := axiom.Candidate{Answers: s.chosen.Answers, From: make([]int, len(s.g.Events)), After: make([]bool, len(s.g.Pairs))}
	for i := range c.From {
		c.From[i] = -1
	}
	for i, r := range s.reads {
		c.From[r] = s.from[i][0]
		if last {
			c.From[r] = s.from[i][len(s.from[i])-1]
		}
	}
	for _, list := range s.cells {
		c.Order = append(c.Order, list...)
	}
	if last {
		slices.Reverse(c.Order)
	}
	for n := range c.After {
		c.After[n] = last
	}
	return c
}

// base: what holds whatever is chosen: the relations of candidates, less what their choices make. It may tell less than there is; each candidate is held against the axioms at its end.
func (s *search) base() bool {
	for _, last := range [2]bool{true, false} {
		c := s.filler(last)
		g, e := axiom.Build(s.t, c)
		if e != api.OK {
			return false
		}
		made := s.made(c)
		for _, p := range g.Rel.Pairs() {
			if made[p] == 0 && !s.reach.add(len(s.g.Events), p[0], p[1]) {
				return false
			}
		}
		s.chosen.From, s.chosen.After = c.From, c.After
	}
	return true
}

// made: the pairs that a candidate's choices make.
func (s *search) made(c axiom.Candidate) map[[2]int]int {
	out := map[[2]int]int{}
	var place [api.MaxEvents]int
	for n, w := range c.Order {
		place[w] = n + 1
		for _, x := range c.Order[:n] {
			if s.g.Events[x].Addr == s.g.Events[w].Addr {
				out[[2]int{x, w}]++
			}
		}
	}
	for _, r := range s.reads {
		from, behind := c.From[r], 0
		if from >= 0 {
			behind = place[from]
		}
		for _, w := range c.Order[behind:] {
			if s.g.Events[w].Addr == s.g.Events[r].Addr {
				out[[2]int{r, w}]++
			}
		}
		for _, a := range s.ahead(r, from) {
			out[[2]int{a, r}]++
		}
		out[[2]int{r, r}]++
	}
	for n, p := range s.g.Pairs {
		if v := s.g.Events[p[1]]; c.After[n] {
			out[[2]int{p[0], s.g.First(v.Core, v.Step)}]++
		} else {
			out[[2]int{p[1], p[0]}]++
		}
	}
	return out
}

// ahead: what comes ahead of an event that reads, since it reads from a write.
func (s *search) ahead(r, from int) []int {
	if from < 0 {
		return nil
	}
	v, w := s.g.Events[r], s.g.Events[from]
	if v.Kind != api.EvRead || w.Core != v.Core || w.Step >= v.Step {
		return []int{from}
	}
	var list []int
	for _, n := range s.g.Steps[w.Core][w.Step].Data {
		list = append(list, s.g.Act(w.Core, n))
	}
	return list
}

// back: what was tried is taken back.
func (s *search) back(was reach, order int) {
	s.reach = was
	s.chosen.Order = s.chosen.Order[:order]
}

// order: how the writes come, cell by cell.
func (s *search) order(cell int) {
	if cell == len(s.cells) {
		for n, w := range s.chosen.Order {
			s.place[w] = n + 1
		}
		s.read(0)
		return
	}
	s.write(cell, 0)
}

// write: which write to a cell comes next, behind so many.
func (s *search) write(cell, had int) {
	list := s.cells[cell]
	if had == len(list) {
		s.order(cell + 1)
		return
	}
	defer s.back(s.reach, len(s.chosen.Order))
	was := s.reach
	for i := had; i < len(list); i++ {
		list[had], list[i] = list[i], list[had]
		s.chosen.Order = append(s.chosen.Order, list[had])
		if (len(list)-had == 1 || s.try()) && s.precedes(list[had], list[had+1:]) {
			s.write(cell, had+1)
		}
		s.back(was, len(s.chosen.Order)-1)
		list[had], list[i] = list[i], list[had]
		if s.ended() {
			return
		}
	}
}

// precedes: a write comes ahead of others; false: it can't.
func (s *search) precedes(w int, others []int) bool {
	for _, x := range others {
		if !s.reach.add(len(s.g.Events), w, x) {
			return false
		}
	}
	return true
}

// read: where the next event reads from.
func (s *search) read(n int) {
	if n == len(s.reads) {
		s.side(0)
		return
	}
	r, was := s.reads[n], s.reach
	defer func() { s.reach, s.chosen.From[r] = was, -1 }()
	for _, from := range s.from[n] {
		s.reach, s.chosen.From[r] = was, from
		if (len(s.from[n]) == 1 || s.try()) && s.readsFrom(r, from) {
			s.read(n + 1)
		}
		if s.ended() {
			return
		}
	}
}

// readsFrom: an event reads from a write, or what memory began with; false: it can't.
func (s *search) readsFrom(r, from int) bool {
	n, behind := len(s.g.Events), 0
	if from >= 0 {
		behind = s.place[from]
	}
	if w := s.latest(r); w >= 0 && behind < s.place[w] {
		return false
	}
	for _, a := range s.ahead(r, from) {
		if !s.reach.add(n, a, r) {
			return false
		}
	}
	for _, w := range s.chosen.Order[behind:] {
		if s.g.Events[w].Addr == s.g.Events[r].Addr {
			return s.reach.add(n, r, w)
		}
	}
	return true
}

// side: whether the next invalidation comes ahead of an access's walk, or behind its act.
func (s *search) side(n int) {
	if n == len(s.g.Pairs) {
		if !s.look() {
			return
		}
		if ok, e := axiom.Check(s.t, s.chosen); e == api.OK && ok {
			s.halted = !s.yield(s.chosen)
		}
		return
	}
	was, p := s.reach, s.g.Pairs[n]
	defer func() { s.reach = was }()
	v := s.g.Events[p[1]]
	first := s.g.First(v.Core, v.Step)
	for _, x := range [2][2]int{{p[1], p[0]}, {p[0], first}} {
		s.reach, s.chosen.After[n] = was, x[1] == first
		if s.reach.add(len(s.g.Events), x[0], x[1]) {
			s.side(n + 1)
		}
		if s.ended() {
			return
		}
	}
}
