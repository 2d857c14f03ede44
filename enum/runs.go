package enum

import (
	"slices"

	"granule/api"
	"granule/desc"
	"granule/proper"
	"granule/regs"
	"granule/store"
	"granule/trace"
	"granule/walk"
)

// Values are the words that cells may hold: what memory begins with, and of cells that are written all that may be in them, rising.
type Values struct {
	begin store.Memory
	held  store.Map[[]uint64]
}

// of: the words that a cell may hold, as they are kept.
func (v Values) of(a uint64) []uint64 {
	if list, ok := v.held.Get(a); ok {
		return list
	}
	return []uint64{v.begin.Read(a)}
}

// Of: the words that a cell may hold, rising.
func (v Values) Of(a uint64) []uint64 { return slices.Clone(v.of(a)) }

// with: a word more that a cell may hold.
func (v Values) with(a, w uint64) Values {
	list := v.of(a)
	if i, ok := slices.BinarySearch(list, w); !ok {
		v.held = v.held.With(a, slices.Insert(slices.Clone(list), i, w))
	}
	return v
}

// size: how many words cells that are written may hold.
func (v Values) size() int {
	n := 0
	for _, list := range v.held.Each() {
		n += len(list)
	}
	return n
}

// tree goes along all runs of a core, access by access.
type tree struct {
	core   api.Core
	values Values
	got    []trace.Got
	ends   []trace.Window
	most   int
}

// all: of a core the windows of all its runs; false: there are more than so many.
func all(core api.Core, v Values, most int) ([]trace.Window, bool) {
	x := tree{core: core, values: v, most: most}
	ok := x.grow()
	return x.ends, ok
}

// grow: all runs that begin with what is known.
func (x *tree) grow() bool {
	w := trace.Eval(x.core, x.got, nil, trace.MaxSteps)
	if w.End {
		x.ends = append(x.ends, w)
		return len(x.ends) <= x.most
	}
	n := len(trace.Accesses(w.Steps))
	if n == 0 || !w.Open {
		return true
	}
	had := len(x.got)
	defer func() { x.got = x.got[:had] }()
	for len(x.got) < n {
		x.got = append(x.got, trace.Got{})
	}
	s := &w.Steps[len(w.Steps)-1]
	for _, first := range x.values.of(desc.Slot(x.core.Table, s.VA, 1)) {
		x.got[n-1] = trace.Got{Bound: true, First: first}
		if !x.last(n-1, s) {
			return false
		}
	}
	return true
}

// last: the second descriptor of an access, if there is one.
func (x *tree) last(n int, s *trace.Step) bool {
	got := x.got[n]
	_, a, more := walk.First(got.First, s.VA)
	if !more {
		return x.read(n, s)
	}
	for _, last := range x.values.of(a) {
		x.got[n] = trace.Got{Bound: true, First: got.First, Last: last}
		if !x.read(n, s) {
			return false
		}
	}
	return true
}

// read: what a load reads, if it doesn't fault.
func (x *tree) read(n int, s *trace.Step) bool {
	got := x.got[n]
	f, a := walk.Through(got.First, got.Last, s.VA, regs.Store(s.Instr))
	if f.Kind != api.FaultNone || regs.Store(s.Instr) {
		return x.grow()
	}
	for _, v := range x.values.of(a) {
		x.got[n].Read, x.got[n].Value = true, v
		if !x.grow() {
			return false
		}
	}
	return true
}

// written: what cells may hold, if runs' stores write to them, too.
func written(v Values, ends []trace.Window) Values {
	for _, w := range ends {
		for i := range w.Steps {
			if s := &w.Steps[i]; s.Writes() {
				v = v.with(s.Addr, s.Value)
			}
		}
	}
	return v
}

// rounds: more than there can be writes of a test that hang on one another.
func rounds(t api.Test) int { return proper.Events(t)/3 + 1 }

// windows: of each core the windows of all its runs, and what cells may hold. In each round words come in that hang on those of the round ahead; what is written at all hangs on no more writes than there can be.
func windows(t api.Test, most int) ([][]trace.Window, Values, api.Errno) {
	v := Values{begin: proper.Memory(t)}
	for n := 0; ; n++ {
		list := make([][]trace.Window, len(t.Cores))
		next, left := v, most
		for i, c := range t.Cores {
			ends, ok := all(c, v, left)
			if !ok {
				return nil, Values{}, api.ErrStates
			}
			left -= len(ends)
			list[i] = ends
			next = written(next, ends)
		}
		if n > rounds(t) || next.size() == v.size() {
			return list, next, api.OK
		}
		v = next
	}
}

// answers: what a window's accesses came to.
func answers(w trace.Window) []trace.Answer {
	var list []trace.Answer
	for _, n := range trace.Accesses(w.Steps) {
		s := &w.Steps[n]
		a := trace.Answer{First: s.First, Last: s.Last}
		if s.Reads() {
			a.Value = s.Value
		}
		list = append(list, a)
	}
	return list
}

// Runs: of each core all answers with which it comes to an end, where cells hold what they may. ErrStates: too many.
func Runs(t api.Test, most int) ([][][]trace.Answer, Values, api.Errno) {
	list, v, e := windows(t, most)
	if e != api.OK {
		return nil, Values{}, e
	}
	out := make([][][]trace.Answer, len(list))
	for i, ends := range list {
		for _, w := range ends {
			out[i] = append(out[i], answers(w))
		}
	}
	return out, v, api.OK
}
