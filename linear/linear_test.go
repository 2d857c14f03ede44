package linear

import (
	"reflect"
	"testing"

	"granule/api"
	"granule/axiom"
	"granule/enum"
	"granule/machine"
	"granule/proper"
	"granule/sample"
	"granule/trace"
)

func read(t *testing.T, text string) api.Test {
	t.Helper()
	s, p := proper.Read(text)
	if p.Code != api.OK {
		t.Fatalf("%v in %s", p, text)
	}
	return s.Test
}

const buffering = `test sb
table 0x1000
cell 0x1000 = block 0
core 0 table 0x1000
reg X0 = 1
reg X1 = 0x8000
reg X3 = 0x8008
STR X0,[X1]
LDR X2,[X3]
core 1 table 0x1000
reg X0 = 1
reg X1 = 0x8008
reg X3 = 0x8000
STR X0,[X1]
LDR X2,[X3]
exists true
`

// check: picks can each be done, and come to what a candidate says.
func check(t *testing.T, test api.Test, c axiom.Candidate) []api.Pick {
	t.Helper()
	g, e := axiom.Build(test, c)
	if e != api.OK || !g.Rel.Acyclic() {
		t.Fatalf("the candidate isn't consistent: %d", e)
	}
	picks, e := Picks(test, c)
	if e != api.OK || len(picks) > Length(g) {
		t.Fatalf("Picks: %d, %d of %d", e, len(picks), Length(g))
	}
	s := machine.Begin(test)
	for i, p := range picks {
		next, ok := machine.Do(test, s, p)
		if !ok {
			t.Fatalf("pick %d, %v, can't be done", i, p)
		}
		s = next
	}
	if !machine.Final(test, s) {
		t.Fatalf("no final state")
	}
	want, _ := axiom.Outcome(test, c)
	if got := machine.Outcome(test, s); !alike(got, want) {
		t.Fatalf("Outcome: %+v, not %+v", got, want)
	}
	for core := range test.Cores {
		if !reflect.DeepEqual(machine.Window(test, s, core).Steps, g.Steps[core]) {
			t.Fatalf("the windows haven't the candidate's steps")
		}
	}
	return picks
}

func alike(a, b api.Outcome) bool {
	for i := range a.Faults {
		if len(a.Faults[i]) != len(b.Faults[i]) {
			return false
		}
		for j := range a.Faults[i] {
			if a.Faults[i][j] != b.Faults[i][j] {
				return false
			}
		}
	}
	return reflect.DeepEqual(a.Regs, b.Regs) && reflect.DeepEqual(a.Cells, b.Cells)
}

func TestBuffering(t *testing.T) { // P18.1: the chapter's example
	test := read(t, buffering)
	a := trace.Answer{First: 0x401}
	c := axiom.Candidate{Answers: [][]trace.Answer{{a, a}, {a, a}}, From: []int{-1, -1, -1, -1, -1, -1, -1, -1}, Order: []int{1, 5}}
	picks := check(t, test, c)
	stores := 0
	for _, p := range picks {
		if p.Kind == api.PickAct && p.Step == 0 {
			stores++
		}
		if p.Kind == api.PickAct && p.Step == 1 && stores > 0 {
			t.Error("a load acts behind a store")
		}
	}
	g, _ := axiom.Build(test, c)
	if Length(g) != 8+4+4 || Length(nil) != 0 {
		t.Errorf("Length: %d", Length(g))
	}
}

func TestWrong(t *testing.T) { // P18.1
	test := read(t, buffering)
	a := trace.Answer{First: 0x401}
	c := axiom.Candidate{Answers: [][]trace.Answer{{a, a}, {a, a}}, From: []int{-1, -1, -1, -1, -1, -1, -1, -1}, Order: []int{1, 5}}
	for i := range test.Cores {
		test.Cores[i].Code = []api.Instr{test.Cores[i].Code[0], {Op: api.Dmb, Kind: 15}, test.Cores[i].Code[1]}
	}
	if picks, e := Picks(test, c); picks != nil || e != api.ErrCand {
		t.Errorf("one that isn't consistent: %d", e)
	}
	c.Order = nil
	if picks, e := Picks(test, c); picks != nil || e != api.ErrCand {
		t.Errorf("one that is none: %d", e)
	}
}

// dice are numbers that follow from a first one.
type dice uint64

func (d *dice) below(n int) int {
	*d = *d*6364136223846793005 + 1442695040888963407
	return int(uint64(*d) >> 33 % uint64(n))
}

// pick: one that may perhaps be done.
func (d *dice) pick(test api.Test, s machine.State) api.Pick {
	p := api.Pick{Core: d.below(len(test.Cores)), Step: d.below(8)}
	p.Kind = []int{api.PickFetch, api.PickFetch, api.PickAct, api.PickAct, api.PickBind, api.PickBind, api.PickWalk, api.PickStep, api.PickOwn, api.PickDrop, api.PickDrop, api.PickEvict}[d.below(12)]
	switch p.Kind {
	case api.PickWalk:
		p.Arg = []int{5, 5, 0x202, 0x209, 0x20a, 0}[d.below(6)]
	case api.PickStep:
		p.Arg = d.below(4)
	case api.PickEvict:
		p.Arg = d.below(9)
	default:
		p.Arg = d.below(4)
	}
	return p
}

func TestObserve(t *testing.T) { // P18.2, P18.3: what the machine comes to is a consistent candidate, and the other way round
	finals := 0
	for seed := range uint64(250) {
		test := read(t, sample.Text(seed, 1+int(seed%3), 2+int(seed%4)))
		for run := range uint64(6) {
			d := dice(seed*31 + run)
			var all, done []api.Pick
			s := machine.Begin(test)
			for range 1200 {
				p := d.pick(test, s)
				next, ok := machine.Do(test, s, p)
				all = append(all, p)
				if ok {
					done, s = append(done, p), next
				}
				if ok && machine.Final(test, s) {
					break
				}
			}
			c, end, ok := Observe(test, all)
			if ok != machine.Final(test, s) || machine.Key(end) != machine.Key(s) {
				t.Fatalf("seed %d: the state", seed)
			}
			again, _, _ := Observe(test, done)
			if !reflect.DeepEqual(c, again) {
				t.Fatalf("seed %d: picks that can't be done play a part", seed)
			}
			if !ok {
				if !reflect.DeepEqual(c, axiom.Candidate{}) {
					t.Fatalf("seed %d: a candidate of no final state", seed)
				}
				continue
			}
			finals++
			if o, e := axiom.Outcome(test, c); e != api.OK || !alike(o, machine.Outcome(test, s)) {
				t.Fatalf("seed %d: %d, Outcome %+v, not %+v", seed, e, o, machine.Outcome(test, s))
			}
			check(t, test, c)
		}
	}
	if finals < 600 {
		t.Errorf("only %d runs came to their end", finals)
	}
}

func TestCandidates(t *testing.T) { // P18.1, P18.3: what is consistent the machine can do
	n := 0
	for seed := range uint64(150) {
		test := read(t, sample.Text(seed+40000, 1+int(seed%3), 2+int(seed%3)))
		looked := 0
		enum.Each(test, 5000, func(c axiom.Candidate) bool {
			looked++
			if looked%7 == 1 {
				check(t, test, c)
				n++
			}
			return looked < 300
		})
		if t.Failed() {
			t.Fatalf("seed %d", seed)
		}
	}
	t.Logf("%d candidates", n)
}
