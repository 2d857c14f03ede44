package machine

import (
	"reflect"
	"slices"
	"testing"

	"granule/api"
	"granule/proper"
	"granule/trace"
)

func read(t *testing.T, text string) api.Test {
	t.Helper()
	s, p := proper.Read("test a\n" + text + "\nexists true")
	if p.Code != api.OK {
		t.Fatalf("%v in %s", p, text)
	}
	return s.Test
}

// do: picks, each of which can be done.
func do(t *testing.T, test api.Test, s State, picks ...api.Pick) State {
	t.Helper()
	for i, p := range picks {
		next, ok := Do(test, s, p)
		if !ok {
			t.Fatalf("pick %d, %v, can't be done: %+v", i, p, s)
		}
		s = next
	}
	return s
}

// cant: picks none of which can be done; the state stays.
func cant(t *testing.T, test api.Test, s State, picks ...api.Pick) {
	t.Helper()
	for _, p := range picks {
		if next, ok := Do(test, s, p); ok || !reflect.DeepEqual(next, s) {
			t.Errorf("%v can be done", p)
		}
	}
}

func fetch(core int) api.Pick      { return api.Pick{Kind: api.PickFetch, Core: core} }
func taken(core int) api.Pick      { return api.Pick{Kind: api.PickFetch, Core: core, Arg: 1} }
func walkFor(core, n int) api.Pick { return api.Pick{Kind: api.PickWalk, Core: core, Arg: n} }
func onward(core, n int) api.Pick  { return api.Pick{Kind: api.PickStep, Core: core, Arg: n} }
func bind(core, step, n int) api.Pick {
	return api.Pick{Kind: api.PickBind, Core: core, Step: step, Arg: n}
}
func own(core, step int) api.Pick  { return api.Pick{Kind: api.PickOwn, Core: core, Step: step} }
func acts(core, step int) api.Pick { return api.Pick{Kind: api.PickAct, Core: core, Step: step} }
func comes(core, step, to int) api.Pick {
	return api.Pick{Kind: api.PickDrop, Core: core, Step: step, Arg: to}
}
func evict(core, n int) api.Pick { return api.Pick{Kind: api.PickEvict, Core: core, Arg: n} }

const storing = `table 0x1000
cell 0x1000 = block 0
core 0 table 0x1000
reg X0 = 7
reg X1 = 0x8000
STR X0,[X1]`

func TestExample(t *testing.T) { // P17.1 to P17.4
	test := read(t, storing)
	s := Begin(test)
	if len(s.Cores) != 1 || s.Memory.Read(0x1000) != 0x401 || Final(test, s) || !reflect.DeepEqual(s.Cores[0], Core{}) {
		t.Fatalf("Begin: %+v", s)
	}
	cant(t, test, s, bind(0, 0, 0), own(0, 0), acts(0, 0), comes(0, 0, 0), evict(0, 0), onward(0, 0), fetch(1), fetch(-1), api.Pick{}, api.Pick{Kind: 9}, walkFor(0, -1), walkFor(0, 1<<18), walkFor(0, 512))
	s = do(t, test, s, fetch(0))
	cant(t, test, s, fetch(0), acts(0, 0), own(0, 0), acts(0, 1), acts(0, -1))
	s = do(t, test, s, walkFor(0, 0))
	cant(t, test, s, walkFor(0, 0), walkFor(0, 511), bind(0, 0, 1), bind(0, 0, -1), bind(0, 1, 0), bind(0, -1, 0), evict(0, 1), evict(0, -1))
	before := s
	s = do(t, test, s, bind(0, 0, 0))
	cant(t, test, s, bind(0, 0, 0), own(0, 0))
	if len(before.Cores[0].Got) != 0 || !reflect.DeepEqual(s.Cores[0].Got, []trace.Got{{Bound: true, First: 0x401}}) || len(s.Cores[0].Own) != 1 {
		t.Errorf("Bind: %+v", s.Cores[0])
	}
	if Final(test, s) {
		t.Error("it is final ahead of its act")
	}
	s = do(t, test, s, acts(0, 0))
	cant(t, test, s, acts(0, 0), fetch(0))
	if !Final(test, s) || s.Memory.Read(0x8000) != 7 || before.Memory.Read(0x8000) != 0 {
		t.Errorf("Act: %+v", s)
	}
	o := Outcome(test, s)
	if o.Regs[0][0] != 7 || len(o.Faults[0]) != 0 || !slices.Equal(o.Cells, []api.Cell{{Addr: 0x1000, Value: 0x401}, {Addr: 0x8000, Value: 7}}) {
		t.Errorf("Outcome: %+v", o)
	}
	again := Run(test, []api.Pick{acts(0, 0), fetch(0), fetch(0), walkFor(0, 0), {Kind: 77}, bind(0, 0, 0), acts(0, 0)})
	if !reflect.DeepEqual(again, s) {
		t.Errorf("Run: %+v", again)
	}
}

func TestKey(t *testing.T) { // P17.3
	test := read(t, storing)
	seen := map[string]bool{}
	s := Begin(test)
	for _, p := range []api.Pick{fetch(0), walkFor(0, 0), bind(0, 0, 0), acts(0, 0), evict(0, 0)} {
		if seen[Key(s)] || Key(s) != Key(State{Cores: slices.Clone(s.Cores), Memory: s.Memory}) {
			t.Errorf("Key ahead of %v", p)
		}
		seen[Key(s)] = true
		s = do(t, test, s, p)
	}
	a := do(t, test, Begin(test), fetch(0), walkFor(0, 0))
	b := do(t, test, Begin(test), walkFor(0, 0), fetch(0))
	if Key(a) != Key(b) {
		t.Error("alike states with unlike keys")
	}
}

const pages = `table 0x1000
table 0x2000
cell 0x1000 = to 0x2000
cell 0x1008 = block 0
cell 0x2028 = page 0x9000
cell 0x9000 = 5
`

func TestWalks(t *testing.T) { // P17.2: Walk, Step, Evict, Drop
	test := read(t, pages+`core 0 space 3 table 0x1000
reg X1 = 0x5000
TLBI VMALLE1IS
DSB SY
LDR X0,[X1]
core 1 table 0x1000
NOP`)
	s := do(t, test, Begin(test), walkFor(0, 6), walkFor(0, 5))
	cant(t, test, s, walkFor(0, 5), onward(0, 1), onward(0, 2), onward(0, -1))
	if w := s.Cores[0].Walks; len(w) != 2 || w[0].VA != 0x5000 || w[1].VA != 0x6000 || w[0].First != 0x2003 {
		t.Fatalf("Walks: %+v", w)
	}
	s = do(t, test, s, onward(0, 0))
	cant(t, test, s, onward(0, 0))
	if e := s.Cores[0].Buffer.Entries(); !slices.Equal(e, []api.Entry{{Space: 3, Page: 0x5000, First: 0x2003, Last: 0x9403}}) || len(s.Cores[0].Walks) != 2 {
		t.Errorf("Step: %+v", e)
	}
	s = do(t, test, s, evict(0, 0), onward(0, 0), fetch(0), fetch(0), fetch(0))
	cant(t, test, s, comes(0, 0, 0), acts(0, 2), own(0, 2))
	s = do(t, test, s, acts(0, 0))
	if !slices.Equal(s.Cores[0].Left[0], []int{0, 1}) {
		t.Errorf("Left: %v", s.Cores[0].Left)
	}
	cant(t, test, s, own(0, 2), comes(0, 0, 2), comes(0, 0, -1), comes(0, 1, 0), comes(1, 0, 0))
	held := do(t, test, s, bind(0, 2, 0))
	cant(t, test, held, comes(0, 0, 0), acts(0, 2))
	do(t, test, held, comes(0, 0, 1))
	s = do(t, test, s, comes(0, 0, 0))
	cant(t, test, s, comes(0, 0, 0), onward(0, 0))
	if c := s.Cores[0]; c.Buffer.Len() != 0 || len(c.Walks[0].Since) != 1 || !slices.Equal(c.Left[0], []int{1}) {
		t.Errorf("Drop: %+v", c)
	}
	s = do(t, test, s, walkFor(0, 5), onward(0, 0), bind(0, 2, 0))
	if w := s.Cores[0].Walks; len(w) != 3 || len(w[0].Since) != 0 || len(w[1].Since) != 1 || w[1].VA != 0x5000 {
		t.Errorf("Walks: %+v", w)
	}
	cant(t, test, s, acts(0, 2))
	s = do(t, test, s, comes(0, 0, 1), acts(0, 2), fetch(1))
	if !Final(test, s) || Outcome(test, s).Regs[0][0] != 5 {
		t.Errorf("at the end: %+v", Outcome(test, s))
	}
}

func TestSince(t *testing.T) { // P17.2: walks that were unlike become one, each invalidation is told once
	test := read(t, pages+`core 0 table 0x1000
TLBI VMALLE1
TLBI VMALLE1
TLBI ASIDE1,XZR`)
	s := do(t, test, Begin(test), walkFor(0, 5), fetch(0), fetch(0), fetch(0), acts(0, 2), acts(0, 0), acts(0, 1), comes(0, 2, 0), walkFor(0, 5), comes(0, 0, 0))
	if w := s.Cores[0].Walks; len(w) != 2 || !slices.Equal(w[0].Since, []api.Flush{{}}) || !slices.Equal(w[1].Since, []api.Flush{{}, {Kind: 3}}) {
		t.Fatalf("Walks: %+v", w)
	}
	s = do(t, test, s, walkFor(0, 5), comes(0, 1, 0))
	if w := s.Cores[0].Walks; len(w) != 2 || len(w[1].Since) != 2 {
		t.Errorf("Walks: %+v", w)
	}
}

func TestOwn(t *testing.T) { // P17.2: Own
	test := read(t, pages+`core 0 table 0x1000
reg X1 = 0x400000
LDR X0,[X1]
handler
MRS X2,ESR_EL1`)
	s := do(t, test, Begin(test), fetch(0), own(0, 0))
	if !reflect.DeepEqual(s.Cores[0].Got, []trace.Got{{Bound: true}}) || !reflect.DeepEqual(s.Cores[0].Own, []Own{{}}) {
		t.Errorf("Own without a descriptor: %+v", s.Cores[0])
	}
	cant(t, test, s, fetch(0), own(0, 0))
	s = do(t, test, s, acts(0, 0), fetch(0))
	if !Final(test, s) || Outcome(test, s).Regs[0][2] != 0x96000005 || len(Outcome(test, s).Faults[0]) != 1 {
		t.Errorf("a fault: %+v", Outcome(test, s))
	}
	test.Cores[0].Regs[1] = 0x6000
	s = do(t, test, Begin(test), fetch(0), own(0, 0))
	if !reflect.DeepEqual(s.Cores[0].Own, []Own{{Open: true, First: 0x2003}}) || !reflect.DeepEqual(s.Cores[0].Got, []trace.Got{{}}) {
		t.Errorf("Own under way: %+v", s.Cores[0])
	}
	s = do(t, test, s, own(0, 0))
	if !reflect.DeepEqual(s.Cores[0].Got, []trace.Got{{Bound: true, First: 0x2003}}) || s.Cores[0].Own[0].Open {
		t.Errorf("Own at its end: %+v", s.Cores[0])
	}
	test.Cores[0].Regs[1] = 0x5000
	s = do(t, test, Begin(test), fetch(0), own(0, 0), own(0, 0))
	if !reflect.DeepEqual(s.Cores[0].Got, []trace.Got{{}}) || !reflect.DeepEqual(s.Cores[0].Own, []Own{{}}) {
		t.Errorf("Own of what may be kept: %+v", s.Cores[0])
	}
	s = do(t, test, s, own(0, 0), walkFor(0, 5), onward(0, 0), bind(0, 0, 0))
	if s.Cores[0].Own[0].Open || !s.Cores[0].Got[0].Bound {
		t.Errorf("Bind ahead of an own walk: %+v", s.Cores[0])
	}
	test.Cores[0].Regs[1] = 0x200000
	cant(t, test, do(t, test, Begin(test), fetch(0)), own(0, 0))
	test.Cores[0].Regs[1] = 0x200004
	s = do(t, test, Begin(test), fetch(0))
	cant(t, test, s, own(0, 0), bind(0, 0, 0), fetch(0))
	s = do(t, test, s, acts(0, 0), fetch(0))
	if c := s.Cores[0]; len(c.Got) != 0 || len(c.Acted) != 1 || !Final(test, s) {
		t.Errorf("a fault ahead of the walk: %+v", c)
	}
}

func TestOwnWaits(t *testing.T) { // P17.2: Own waits as a fault would
	test := read(t, pages+`core 0 table 0x1000
reg X1 = 0x200000
reg X3 = 0x400000
LDR X0,[X1]
CBZ X0,.+1
LDR X2,[X3]`)
	s := do(t, test, Begin(test), walkFor(0, 512), fetch(0), bind(0, 0, 0), fetch(0), taken(0))
	cant(t, test, s, own(0, 2))
	s = do(t, test, s, acts(0, 0), own(0, 2))
	if !s.Cores[0].Got[1].Bound {
		t.Errorf("%+v", s.Cores[0])
	}
}

const guessing = `table 0x1000
cell 0x1000 = block 0
core 0 table 0x1000
reg X1 = 0x8000
LDR X0,[X1]
CBNZ X0,.+3
LDR X2,[X1,#8]
LDR X3,[X1,#16]
NOP`

func TestGuess(t *testing.T) { // P17.2: Fetch, and Act behind a wrong guess
	test := read(t, guessing)
	s := do(t, test, Begin(test), walkFor(0, 0), fetch(0))
	cant(t, test, s, fetch(0))
	s = do(t, test, s, bind(0, 0, 0), fetch(0))
	if w := Window(test, s, 0); !w.Open || len(w.Steps) != 2 || len(s.Cores[0].Guesses) != 0 {
		t.Errorf("a branch: %+v", w)
	}
	right := do(t, test, s, fetch(0), bind(0, 2, 0), fetch(0), acts(0, 2), acts(0, 0))
	if c := right.Cores[0]; c.Limit != 4 || !slices.Equal(c.Guesses, []bool{false}) || len(c.Got) != 2 || !slices.Equal(c.Acted, []bool{true, false, true}) {
		t.Errorf("guessed right: %+v", c)
	}
	wrong := do(t, test, s, taken(0), acts(0, 0))
	if c := wrong.Cores[0]; c.Limit != 2 || len(c.Guesses) != 0 || len(c.Got) != 1 || !slices.Equal(c.Acted, []bool{true}) {
		t.Errorf("guessed wrong: %+v", c)
	}
	cant(t, test, do(t, test, s, taken(0)), taken(0))
	test.Cells = append(test.Cells, api.Cell{Addr: 0x8000, Value: 1})
	s = do(t, test, Begin(test), walkFor(0, 0), fetch(0), bind(0, 0, 0), fetch(0), fetch(0), bind(0, 2, 0), fetch(0), bind(0, 3, 0), acts(0, 3), acts(0, 0))
	if c := s.Cores[0]; c.Limit != 2 || len(c.Guesses) != 0 || len(c.Got) != 1 || len(c.Own) != 1 || !slices.Equal(c.Acted, []bool{true, false}) || len(c.Left) != 2 {
		t.Errorf("what was done behind a wrong guess: %+v", c)
	}
	s = do(t, test, s, fetch(0))
	if c := s.Cores[0]; !slices.Equal(c.Guesses, []bool{true}) || c.Limit != 3 || !Final(test, s) {
		t.Errorf("a branch that is settled: %+v", c)
	}
}

func TestBranchToEnd(t *testing.T) { // P17.2: with one step more there is one more
	test := read(t, `table 0x1000
cell 0x1000 = block 0
core 0 table 0x1000
reg X1 = 0x8000
LDR X0,[X1]
CBZ X0,.+2
NOP`)
	s := do(t, test, Begin(test), walkFor(0, 0), fetch(0), bind(0, 0, 0), fetch(0))
	cant(t, test, s, taken(0))
	do(t, test, s, fetch(0))
	s = do(t, test, s, acts(0, 0))
	cant(t, test, s, fetch(0), taken(0))
	if !Final(test, s) {
		t.Error("it isn't final")
	}
}

func TestForward(t *testing.T) { // P17.5
	test := read(t, `table 0x1000
cell 0x1000 = block 0
core 0 table 0x1000
reg X0 = 7
reg X1 = 0x8000
reg X4 = 0x8008
LDR X3,[X4]
STR X0,[X1]
STR X3,[X1]
LDR X2,[X1]`)
	s := do(t, test, Begin(test), walkFor(0, 0), fetch(0), bind(0, 0, 0), fetch(0), bind(0, 1, 0), fetch(0), bind(0, 2, 0), fetch(0), bind(0, 3, 0))
	cant(t, test, s, acts(0, 3), acts(0, 2))
	s = do(t, test, s, acts(0, 0), acts(0, 3))
	if w := Window(test, s, 0); !w.Steps[3].Ready || w.Steps[3].Value != 0 || s.Memory.Read(0x8000) != 0 {
		t.Errorf("%+v", w)
	}
	cant(t, test, s, acts(0, 2))
	s = do(t, test, s, acts(0, 1), acts(0, 2))
	if !Final(test, s) || s.Memory.Read(0x8000) != 0 {
		t.Error("at the end")
	}
}

func TestHere(t *testing.T) { // P17.2: an invalidation of one core, of a space
	test := read(t, pages+`core 0 table 0x1000
reg X0 = 0x5000
LDR X1,[X0]
TLBI VAE1,X1
DSB SY
core 1 table 0x1000
NOP`)
	s := do(t, test, Begin(test), walkFor(0, 5), onward(0, 0), fetch(0), bind(0, 0, 0), fetch(0), fetch(0))
	cant(t, test, s, acts(0, 1))
	s = do(t, test, s, acts(0, 0), acts(0, 1))
	if !slices.Equal(s.Cores[0].Left[1], []int{0}) || Final(test, s) {
		t.Errorf("Left: %v", s.Cores[0].Left)
	}
	s = do(t, test, s, comes(0, 1, 0), fetch(1))
	if s.Cores[0].Buffer.Len() != 0 != (Window(test, s, 0).Steps[1].Flush.Page != 0x5000) || !Final(test, s) {
		t.Errorf("%+v", s.Cores[0].Buffer)
	}
}

func TestAnything(t *testing.T) { // P1
	test := read(t, storing)
	for kind := -1; kind < 10; kind++ {
		for _, n := range []int{-1 << 62, -1, 0, 1, 1 << 62} {
			Do(test, Begin(test), api.Pick{Kind: kind, Core: 0, Step: n, Arg: n})
			Do(test, Begin(test), api.Pick{Kind: kind, Core: n, Step: 0, Arg: 0})
			Do(test, State{}, api.Pick{Kind: kind, Core: n, Step: n, Arg: n})
		}
	}
	if w := Window(test, Begin(test), 5); len(w.Steps) != 0 || w.End {
		t.Error("Window of no core")
	}
}
