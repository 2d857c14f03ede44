package axiom

import (
	"reflect"
	"slices"
	"testing"

	"granule/api"
	"granule/proper"
	"granule/trace"
)

func read(t *testing.T, text string) api.Test {
	t.Helper()
	s, p := proper.Read(text)
	if p.Code != api.OK {
		t.Fatalf("%v in %s", p, text)
	}
	return s.Test
}

// buffering: two cores that each write to a cell of their own and then read the other's, with a row between.
func buffering(t *testing.T, between string) api.Test {
	return read(t, `test sb
table 0x1000
cell 0x1000 = block 0
core 0 table 0x1000
reg X0 = 1
reg X1 = 0x8000
reg X3 = 0x8008
STR X0,[X1]
`+between+`
LDR X2,[X3]
core 1 table 0x1000
reg X0 = 1
reg X1 = 0x8008
reg X3 = 0x8000
STR X0,[X1]
`+between+`
LDR X2,[X3]
exists 0:X2=0 /\ 1:X2=0
`)
}

// stores: a candidate of buffering: which of the loads read the other core's store.
func stores(first, second bool) Candidate {
	c := Candidate{Answers: [][]trace.Answer{{{First: 0x401}, {First: 0x401}}, {{First: 0x401}, {First: 0x401}}}, From: []int{-1, -1, -1, -1, -1, -1, -1, -1}, Order: []int{1, 5}}
	if first {
		c.Answers[0][1].Value, c.From[3] = 1, 5
	}
	if second {
		c.Answers[1][1].Value, c.From[7] = 1, 1
	}
	return c
}

func TestBuffering(t *testing.T) { // P16.2, P16.3
	for _, between := range []string{"NOP", "DMB SY", "DMB ST"} {
		test := buffering(t, between)
		for n := range 4 {
			first, second := n&1 == 1, n&2 == 2
			ok, e := Check(test, stores(first, second))
			if e != api.OK || ok != (first || second || between != "DMB SY") {
				t.Errorf("%s, %t, %t: %t, %d", between, first, second, ok, e)
			}
			o, e := Outcome(test, stores(first, second))
			if e != api.OK || (o.Regs[0][2] == 1) != first || (o.Regs[1][2] == 1) != second || !slices.Equal(o.Cells, []api.Cell{{Addr: 0x1000, Value: 0x401}, {Addr: 0x8000, Value: 1}, {Addr: 0x8008, Value: 1}}) || len(o.Faults) != 2 {
				t.Errorf("Outcome: %+v, %d", o, e)
			}
		}
	}
}

func TestList(t *testing.T) { // P16.1
	test := buffering(t, "NOP")
	c := stores(true, false)
	g, e := Build(test, c)
	if e != api.OK {
		t.Fatal(e)
	}
	want := []api.Event{
		{Kind: api.EvWalk1, Addr: 0x1000, Value: 0x401}, {Kind: api.EvWrite, Addr: 0x8000, Value: 1},
		{Step: 2, Kind: api.EvWalk1, Addr: 0x1000, Value: 0x401}, {Step: 2, Kind: api.EvRead, Addr: 0x8008, Value: 1},
		{Core: 1, Kind: api.EvWalk1, Addr: 0x1000, Value: 0x401}, {Core: 1, Kind: api.EvWrite, Addr: 0x8008, Value: 1},
		{Core: 1, Step: 2, Kind: api.EvWalk1, Addr: 0x1000, Value: 0x401}, {Core: 1, Step: 2, Kind: api.EvRead, Addr: 0x8000},
	}
	if !slices.Equal(g.Events, want) || len(g.Steps) != 2 || len(g.Pairs) != 0 {
		t.Errorf("Events: %+v", g.Events)
	}
	if n, reads := g.Asks(); n != 8 || reads != 6 {
		t.Errorf("Asks: %d, %d", n, reads)
	}
	for _, x := range [][4]int{{0, 0, 0, 1}, {0, 1, -1, -1}, {0, 2, 2, 3}, {1, 2, 6, 7}, {0, 3, -1, -1}, {2, 0, -1, -1}, {-1, 0, -1, -1}, {0, -1, -1, -1}} {
		if g.First(x[0], x[1]) != x[2] || g.Act(x[0], x[1]) != x[3] {
			t.Errorf("First and Act of %v: %d, %d", x, g.First(x[0], x[1]), g.Act(x[0], x[1]))
		}
	}
	ends, ok := Runs(test, c.Answers)
	if h := List(test, ends); !ok || !slices.Equal(h.Events, want) || h.Rel != nil {
		t.Error("List of Runs")
	}
	for _, answers := range [][][]trace.Answer{nil, c.Answers[:1], {c.Answers[0], c.Answers[1], nil}, {c.Answers[0][:1], c.Answers[1]}, {append(c.Answers[0][:2:2], trace.Answer{}), c.Answers[1]}} {
		if ends, ok := Runs(test, answers); ok || ends != nil {
			t.Errorf("Runs of %v", answers)
		}
	}
}

func TestWrong(t *testing.T) { // P16.2
	test := buffering(t, "NOP")
	for i, change := range []func(*Candidate){
		func(c *Candidate) { c.Answers = nil },
		func(c *Candidate) { c.From = c.From[:7] },
		func(c *Candidate) { c.From = append(c.From, -1) },
		func(c *Candidate) { c.From[1] = 5 },
		func(c *Candidate) { c.From[1] = 0 },
		func(c *Candidate) { c.From[3] = -1 },
		func(c *Candidate) { c.From[3] = 1 },
		func(c *Candidate) { c.From[3] = 2 },
		func(c *Candidate) { c.From[3] = -2 },
		func(c *Candidate) { c.From[3] = 8 },
		func(c *Candidate) { c.From[7] = 1 },
		func(c *Candidate) { c.Order = []int{1} },
		func(c *Candidate) { c.Order = []int{1, 1} },
		func(c *Candidate) { c.Order = []int{1, 5, 1} },
		func(c *Candidate) { c.Order = []int{1, 3} },
		func(c *Candidate) { c.Order = []int{1, -1} },
		func(c *Candidate) { c.Order = []int{1, 99} },
		func(c *Candidate) { c.After = []bool{true} },
		func(c *Candidate) { c.Answers[0][0].First = 0x403 },
		func(c *Candidate) { c.Answers[1][1].Value = 7 },
	} {
		c := stores(true, false)
		change(&c)
		if g, e := Build(test, c); g != nil || e != api.ErrCand {
			t.Errorf("Build %d: %d", i, e)
		}
		if ok, e := Check(test, c); ok || e != api.ErrCand {
			t.Errorf("Check %d: %d", i, e)
		}
		if o, e := Outcome(test, c); !reflect.DeepEqual(o, api.Outcome{}) || e != api.ErrCand {
			t.Errorf("Outcome %d: %d", i, e)
		}
	}
}

// pairs: which of the relation's pairs a graph should have, and no others.
func pairs(t *testing.T, g *Graph, want ...[2]int) {
	t.Helper()
	slices.SortFunc(want, func(a, b [2]int) int { return slices.Compare(a[:], b[:]) })
	if got := g.Rel.Pairs(); !slices.Equal(got, want) {
		t.Errorf("Rel: %v, not %v", got, want)
	}
}

func made(t *testing.T, test api.Test, c Candidate) *Graph {
	t.Helper()
	g, e := Build(test, c)
	if e != api.OK {
		t.Fatalf("Build: %d", e)
	}
	return g
}

func TestRel(t *testing.T) { // P16.2: 1 to 4
	g := made(t, buffering(t, "NOP"), stores(true, false))
	pairs(t, g, [2]int{0, 1}, [2]int{2, 3}, [2]int{4, 5}, [2]int{6, 7}, [2]int{0, 3}, [2]int{4, 7}, [2]int{5, 3}, [2]int{7, 1})
	g = made(t, buffering(t, "DSB SY"), stores(false, true))
	pairs(t, g, [2]int{0, 1}, [2]int{2, 3}, [2]int{4, 5}, [2]int{6, 7}, [2]int{0, 3}, [2]int{4, 7}, [2]int{1, 3}, [2]int{5, 7}, [2]int{1, 7}, [2]int{3, 5})
}

// flush: a core that writes to the entry of a page, and takes the translation away; another one that loads by it.
func flush(t *testing.T, kind string) api.Test {
	return read(t, `test tlbi
table 0x1000
table 0x2000
cell 0x1000 = to 0x2000
cell 0x2028 = page 0x9000
cell 0x1008 = block 0
core 0 table 0x1000
reg X1 = 0x202028
STR XZR,[X1]
DSB SY
TLBI `+kind+`
DSB SY
NOP
core 1 table 0x1000
reg X3 = 0x5000
LDR X2,[X3]
LDR X4,[X3]
handler
MRS X5,ESR_EL1
exists true
`)
}

func TestFlush(t *testing.T) { // P16.1, P16.2: walks by pages, drops, pairs, own walks
	test := flush(t, "VMALLE1IS")
	test.Cores[0].Regs[1] = 0x2028
	test.Cores[0].Table = 0x3000
	test.Cells = append(test.Cells, api.Cell{Addr: 0x3000, Value: 0x401})
	seen := trace.Answer{First: 0x2003, Last: 0x9403}
	c := Candidate{
		Answers: [][]trace.Answer{{{First: 0x401}}, {seen, {First: 0x2003}}},
		From:    []int{-1, -1, -1, -1, -1, -1, -1, -1, -1, 1, -1},
		Order:   []int{1}, After: []bool{false, false},
	}
	g := made(t, test, c)
	want := []api.Event{
		{Kind: api.EvWalk1, Addr: 0x3000, Value: 0x401}, {Kind: api.EvWrite, Addr: 0x2028}, {Step: 2, Kind: api.EvTlbi}, {Step: 2, Kind: api.EvDrop}, {Step: 2, Kind: api.EvDrop, To: 1},
		{Core: 1, Kind: api.EvWalk1, Addr: 0x1000, Value: 0x2003}, {Core: 1, Kind: api.EvWalk2, Addr: 0x2028, Value: 0x9403}, {Core: 1, Kind: api.EvRead, Addr: 0x9000},
		{Core: 1, Step: 1, Kind: api.EvWalk1, Addr: 0x1000, Value: 0x2003}, {Core: 1, Step: 1, Kind: api.EvWalk2, Addr: 0x2028}, {Core: 1, Step: 1, Kind: api.EvFault},
	}
	if !slices.Equal(g.Events, want) || !slices.Equal(g.Pairs, [][2]int{{3, 1}, {4, 7}}) {
		t.Fatalf("Events: %+v, Pairs: %v", g.Events, g.Pairs)
	}
	pairs(t, g, [2]int{0, 1}, [2]int{2, 3}, [2]int{2, 4}, [2]int{5, 6}, [2]int{6, 7}, [2]int{8, 9}, [2]int{9, 10}, // 1
		[2]int{1, 2}, [2]int{0, 2}, [2]int{6, 10}, [2]int{6, 8}, // 2: the last one walks by itself
		[2]int{6, 1}, [2]int{1, 9}, // 3 and 4
		[2]int{1, 3}, [2]int{7, 4}) // 6
	if !g.Rel.Acyclic() {
		t.Error("it isn't consistent")
	}
	c.After = []bool{false, true}
	g = made(t, test, c)
	if !g.Rel.Has(4, 5) || g.Rel.Has(7, 4) || g.Rel.Acyclic() {
		t.Error("a walk behind the invalidation reads what was replaced ahead of it")
	}
	here := flush(t, "VAE1,XZR")
	here.Cores[0].Table, here.Cores[0].Regs, here.Cells = test.Cores[0].Table, test.Cores[0].Regs, test.Cells
	c.From = append(c.From[:4:4], c.From[5:]...)
	c.After = []bool{false} // the block that core 0 stores through has page 0
	g = made(t, here, c)
	if len(g.Events) != 10 || g.Events[3] != (api.Event{Step: 2, Kind: api.EvDrop}) || !slices.Equal(g.Pairs, [][2]int{{3, 1}}) {
		t.Errorf("an invalidation of one core: %+v, %v", g.Events, g.Pairs)
	}
}

func TestForward(t *testing.T) { // P16.2: 4 and 5
	test := read(t, `test fwd
table 0x1000
cell 0x1000 = block 0
core 0 table 0x1000
reg X1 = 0x8000
reg X3 = 0x8008
LDR X0,[X3]
STR X0,[X1]
LDR X2,[X1]
core 1 table 0x1000
reg X0 = 5
reg X1 = 0x8000
STR X0,[X1]
exists true
`)
	c := Candidate{
		Answers: [][]trace.Answer{{{First: 0x401}, {First: 0x401}, {First: 0x401}}, {{First: 0x401}}},
		From:    []int{-1, -1, -1, -1, -1, 3, -1, -1}, Order: []int{3, 7},
	}
	g := made(t, test, c)
	if g.Rel.Has(3, 5) || !g.Rel.Has(1, 5) || !g.Rel.Has(5, 7) || g.Rel.Has(5, 5) || !g.Rel.Acyclic() {
		t.Errorf("forwarded: %v", g.Rel.Pairs())
	}
	c.From[5] = -1
	if g = made(t, test, c); !g.Rel.Has(5, 5) || !g.Rel.Has(5, 3) || g.Rel.Acyclic() {
		t.Errorf("a store of its own gone past: %v", g.Rel.Pairs())
	}
	c.From[5], c.Answers[0][2].Value = 7, 5
	if g = made(t, test, c); g.Rel.Has(5, 5) || !g.Rel.Has(7, 5) || !g.Rel.Acyclic() {
		t.Errorf("a write behind its own: %v", g.Rel.Pairs())
	}
	c.Order = []int{7, 3}
	if g = made(t, test, c); !g.Rel.Has(5, 5) || !g.Rel.Has(7, 3) || g.Rel.Has(3, 7) {
		t.Errorf("a write ahead of its own: %v", g.Rel.Pairs())
	}
}

func TestHandedIn(t *testing.T) { // P2, P16.4
	test, c := buffering(t, "DMB SY"), stores(true, true)
	again := stores(true, true)
	g := made(t, test, c)
	if _, e := g.Rel.Order(); e != api.OK || !reflect.DeepEqual(c, again) {
		t.Error("Order, or the candidate was changed")
	}
	test.Cond = api.Cond{Kind: 99}
	if ok, e := Check(test, c); !ok || e != api.OK {
		t.Error("its condition plays a part")
	}
}
