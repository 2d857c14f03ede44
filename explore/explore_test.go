package explore

import (
	"reflect"
	"slices"
	"strings"
	"testing"

	"granule/api"
	"granule/machine"
	"granule/proper"
	"granule/sample"
)

func read(t *testing.T, text string) api.Test {
	t.Helper()
	s, p := proper.Read(text)
	if p.Code != api.OK {
		t.Fatalf("%v in %s", p, text)
	}
	return s.Test
}

// naive: all outcomes and all pages of windows, by all picks that Picks tells; false: there are too many states.
func naive(test api.Test, pages []int, most int) (map[string]bool, map[int]bool, bool) {
	first := machine.Begin(test)
	row := []machine.State{first}
	known := map[string]bool{machine.Key(first): true}
	found, seen := map[string]bool{}, map[int]bool{}
	for len(row) > 0 {
		s := row[len(row)-1]
		row = row[:len(row)-1]
		for core := range test.Cores {
			for _, x := range machine.Window(test, s, core).Steps {
				if x.Placed {
					seen[int(x.VA>>12)] = true
				}
			}
		}
		if machine.Final(test, s) {
			found[Text(machine.Outcome(test, s))] = true
		}
		for _, p := range Picks(test, s, pages) {
			next, ok := machine.Do(test, s, p)
			if k := machine.Key(next); ok && !known[k] {
				known[k] = true
				row = append(row, next)
			}
		}
		if len(known) > most {
			return nil, nil, false
		}
	}
	return found, seen, true
}

// shown: picks can each be done, and come to an outcome.
func shown(t *testing.T, test api.Test, picks []api.Pick, want api.Outcome) {
	t.Helper()
	s := machine.Begin(test)
	for i, p := range picks {
		next, ok := machine.Do(test, s, p)
		if !ok {
			t.Fatalf("pick %d, %v, can't be done", i, p)
		}
		s = next
	}
	if !machine.Final(test, s) || Text(machine.Outcome(test, s)) != Text(want) {
		t.Fatalf("picks come to %s, not to %s", Text(machine.Outcome(test, s)), Text(want))
	}
}

// check: a report is what it should be of a test.
func check(t *testing.T, test api.Test, r Report, most int) bool {
	t.Helper()
	if len(r.Picks) != len(r.Outcomes) {
		t.Fatal("Picks and Outcomes")
	}
	var texts []string
	for i, o := range r.Outcomes {
		texts = append(texts, Text(o))
		shown(t, test, r.Picks[i], o)
	}
	if !slices.IsSorted(texts) || len(slices.Compact(slices.Clone(texts))) != len(texts) || !slices.IsSorted(r.Pages) {
		t.Fatal("Outcomes or Pages don't rise")
	}
	found, seen, ok := naive(test, r.Pages, most)
	if !ok {
		return false
	}
	if len(found) != len(texts) {
		t.Errorf("%d outcomes, not %d", len(texts), len(found))
	}
	for _, x := range texts {
		if !found[x] {
			t.Errorf("no run comes to %s", x)
		}
	}
	for p := range seen {
		if !slices.Contains(r.Pages, p) {
			t.Errorf("page %x is missing", p)
		}
	}
	return true
}

func TestSamples(t *testing.T) { // P20.1: just what any picks come to
	done := 0
	for seed := range uint64(200) {
		text := sample.Text(seed, 1+int(seed%2), 2+int(seed%3))
		test := read(t, text)
		r, e := Explore(test, api.MaxStates)
		if e != api.OK {
			t.Fatalf("seed %d: %d", seed, e)
		}
		if check(t, test, r, 4000) {
			done++
		}
		if t.Failed() {
			t.Fatalf("seed %d: %s", seed, text)
		}
	}
	t.Logf("%d held against all picks", done)
	if done < 100 {
		t.Errorf("only %d held against all picks", done)
	}
}

func TestChanges(t *testing.T) { // P20.1: of tables that are changed
	done := 0
	for seed := range uint64(40) {
		text := sample.Change(seed, 1)
		test := read(t, text)
		r, e := Explore(test, api.MaxStates)
		if e != api.OK {
			t.Fatalf("seed %d: %d", seed, e)
		}
		if check(t, test, r, 2500) {
			done++
		}
		if t.Failed() {
			t.Fatalf("seed %d: %s", seed, text)
		}
	}
	t.Logf("%d held against all picks", done)
	if done < 5 {
		t.Errorf("only %d held against all picks", done)
	}
}

const one = `test a
table 0x1000
cell 0x1000 = block 0
core 0 table 0x1000
reg X0 = 7
reg X1 = 0x8000
STR X0,[X1]
exists true`

func TestOne(t *testing.T) { // P20.1: the chapter's example
	test := read(t, one)
	r, e := Explore(test, 100)
	if e != api.OK || len(r.Outcomes) != 1 || r.States < 2 || r.States > 100 || !slices.Contains(r.Pages, 8) {
		t.Fatalf("%+v, %d", r, e)
	}
	if want := []api.Pick{{Kind: api.PickFetch}, {Kind: api.PickWalk, Arg: 8}, {Kind: api.PickBind}, {Kind: api.PickAct}}; !slices.Equal(r.Picks[0], want) {
		t.Errorf("Picks: %v", r.Picks[0])
	}
	check(t, test, r, 1000)
	for _, most := range []int{0, -1, api.MaxStates + 1} {
		if r, e := Explore(test, most); e != api.ErrRange || !reflect.DeepEqual(r, Report{}) {
			t.Errorf("most %d: %d", most, e)
		}
	}
	if r, e := Explore(test, 1); e != api.ErrStates || !reflect.DeepEqual(r, Report{}) {
		t.Errorf("most 1: %d", e)
	}
	again, e := Explore(test, r.States)
	if e != api.OK || !reflect.DeepEqual(again, r) {
		t.Errorf("as many as there are: %d", e)
	}
	if _, e := Explore(test, r.States-1); e != api.ErrStates {
		t.Errorf("one less: %d", e)
	}
	test.Cond = api.Cond{Kind: 99}
	if again, e := Explore(test, 100); e != api.OK || !reflect.DeepEqual(again, r) {
		t.Error("its condition plays a part")
	}
	empty := read(t, "test b\ntable 0\ncore 0 table 0\nexists true")
	if r, e := Explore(empty, 9); e != api.OK || len(r.Outcomes) != 1 || len(r.Picks[0]) != 0 {
		t.Errorf("no code: %+v, %d", r, e)
	}
}

func buffering(t *testing.T, between string) api.Test {
	core := func(n, a, b string) string {
		return "core " + n + " table 0x1000\nreg X0 = 1\nreg X1 = " + a + "\nreg X3 = " + b + "\nSTR X0,[X1]\n" + between + "\nLDR X2,[X3]\n"
	}
	return read(t, "test sb\ntable 0x1000\ncell 0x1000 = block 0\n"+core("0", "0x8000", "0x8008")+core("1", "0x8008", "0x8000")+"exists true")
}

func TestBuffering(t *testing.T) { // P20.1, P20.4, P20.5
	for between, want := range map[string]int{"NOP": 4, "DMB SY": 3, "DMB ST": 4, "DSB LD": 3} {
		test := buffering(t, between)
		r, e := Explore(test, 5000)
		if e != api.OK || len(r.Outcomes) != want {
			t.Errorf("%s: %d outcomes, %d", between, len(r.Outcomes), e)
		}
		check(t, test, r, 60000)
		more, e := Explore(test, api.MaxStates)
		if e != api.OK || !reflect.DeepEqual(more, r) {
			t.Errorf("%s: with more states: %d", between, e)
		}
	}
}

func TestGuess(t *testing.T) { // P20.1: pages of windows behind wrong guesses, too
	test := read(t, `test g
table 0x1000
cell 0x1000 = block 0
cell 0x8000 = 1
core 0 table 0x1000
reg X1 = 0x8000
reg X3 = 0x9000
reg X4 = 0xa000
LDR X0,[X1]
CBNZ X0,.+3
LDR X2,[X3]
LDR X2,[X4]
NOP
exists true`)
	r, e := Explore(test, 1000)
	if e != api.OK || len(r.Outcomes) != 1 {
		t.Fatalf("%+v, %d", r, e)
	}
	check(t, test, r, 20000)
}

func TestText(t *testing.T) { // P20.3
	o := api.Outcome{
		Regs:   [][]uint64{{0, 5, 0xab}, nil, append(make([]uint64, 40), 1)},
		Faults: [][]api.Fault{{{Kind: 3, Level: 1, Write: true}, {Kind: 1}}, nil, nil, {{Kind: -2, Level: 9}}},
		Cells:  []api.Cell{{Addr: 8, Value: 0}, {Addr: 0x10, Value: 255}},
	}
	want := "core 0 X1=0x5 X2=0xab\ncore 1\ncore 2 X40=0x1\nfault 0 3 1 write\nfault 0 1 0\nfault 3 -2 9\ncell 0x8=0x0\ncell 0x10=0xff\n"
	if Text(o) != want || Text(api.Outcome{}) != "" {
		t.Errorf("Text: %s", Text(o))
	}
}

func TestPicks(t *testing.T) { // P20.2
	test := read(t, strings.Replace(one, "STR X0,[X1]", "LDR X2,[X1]\nCBZ X2,.+1\nTLBI VMALLE1IS\nSTR X0,[X1]", 1))
	s := machine.Begin(test)
	for _, p := range []api.Pick{{Kind: api.PickFetch}, {Kind: api.PickWalk, Arg: 8}, {Kind: api.PickBind}, {Kind: api.PickFetch}} {
		if !slices.Contains(Picks(test, s, []int{8, 9}), p) {
			t.Errorf("%v is missing", p)
		}
		s, _ = machine.Do(test, s, p)
	}
	list := Picks(test, s, []int{8, 9})
	for _, p := range []api.Pick{{Kind: api.PickFetch}, {Kind: api.PickFetch, Arg: 1}, {Kind: api.PickWalk, Arg: 9}, {Kind: api.PickAct}} {
		if !slices.Contains(list, p) {
			t.Errorf("%v is missing: %v", p, list)
		}
	}
	for _, p := range []api.Pick{{Kind: api.PickAct}, {Kind: api.PickFetch}, {Kind: api.PickAct, Step: 2}, {Kind: api.PickFetch}, {Kind: api.PickBind, Step: 3}, {Kind: api.PickAct, Step: 3}} {
		s, _ = machine.Do(test, s, p)
	}
	list = Picks(test, s, []int{8, 9})
	if !slices.ContainsFunc(list, func(p api.Pick) bool { return p.Kind == api.PickDrop && p.Step == 2 && p.Arg == 0 }) || slices.ContainsFunc(list, func(p api.Pick) bool { return p.Kind == api.PickWalk }) {
		t.Errorf("at the end: %v", list)
	}
	Picks(test, machine.State{}, nil)
	Picks(api.Test{}, s, nil)
}
