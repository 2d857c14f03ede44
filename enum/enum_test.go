package enum

import (
	"fmt"
	"reflect"
	"slices"
	"testing"

	"granule/api"
	"granule/axiom"
	"granule/explore"
	"granule/proper"
	"granule/sample"
	"granule/trace"
)

func read(t *testing.T, text string) api.Test {
	t.Helper()
	s, p := proper.Read(text)
	if p.Code != api.OK {
		t.Fatalf("%v in %s", p, text)
	}
	return s.Test
}

func buffering(t *testing.T, between string) api.Test {
	core := func(n, a, b string) string {
		return "core " + n + " table 0x1000\nreg X0 = 1\nreg X1 = " + a + "\nreg X3 = " + b + "\nSTR X0,[X1]\n" + between + "\nLDR X2,[X3]\n"
	}
	return read(t, "test sb\ntable 0x1000\ncell 0x1000 = block 0\n"+core("0", "0x8000", "0x8008")+core("1", "0x8008", "0x8000")+"exists true")
}

func TestBuffering(t *testing.T) { // P21.2, P21.3: the chapter's example
	for between, want := range map[string]int{"NOP": 4, "DMB SY": 3} {
		test := buffering(t, between)
		list, e := Outcomes(test, 1500)
		if e != api.OK || len(list) != want {
			t.Errorf("%s: %d outcomes, %d", between, len(list), e)
		}
		n := 0
		if e := Each(test, 1500, func(axiom.Candidate) bool { n++; return n < 2 }); e != api.OK || n != 2 {
			t.Errorf("%s: told to stop: %d, %d", between, n, e)
		}
		if e := Each(test, 1, func(axiom.Candidate) bool { return true }); e != api.ErrStates {
			t.Errorf("%s: most 1: %d", between, e)
		}
		if list, e := Outcomes(test, 1); e != api.ErrStates || list != nil {
			t.Errorf("%s: Outcomes by 1: %d", between, e)
		}
		for _, most := range []int{0, -7, api.MaxChoices + 1} {
			n := 0
			if e := Each(test, most, func(axiom.Candidate) bool { n++; return true }); e != api.ErrRange || n > 0 {
				t.Errorf("most %d: %d", most, e)
			}
			if list, e := Outcomes(test, most); e != api.ErrRange || list != nil {
				t.Errorf("Outcomes by %d: %d", most, e)
			}
		}
		test.Cond = api.Cond{Kind: 99}
		if again, e := Outcomes(test, 1500); e != api.OK || !reflect.DeepEqual(again, list) {
			t.Error("its condition plays a part")
		}
	}
}

func TestRuns(t *testing.T) { // P21.1
	test := buffering(t, "NOP")
	list, v, e := Runs(test, 100)
	a := trace.Answer{First: 0x401}
	one := trace.Answer{First: 0x401, Value: 1}
	want := [][][]trace.Answer{{{a, a}, {a, one}}, {{a, a}, {a, one}}}
	if e != api.OK || !reflect.DeepEqual(list, want) {
		t.Errorf("Runs: %v, %d", list, e)
	}
	if !slices.Equal(v.Of(0x8000), []uint64{0, 1}) || !slices.Equal(v.Of(0x1000), []uint64{0x401}) || !slices.Equal(v.Of(0x9000), []uint64{0}) || !slices.Equal(v.Of(3), []uint64{0}) {
		t.Errorf("Values: %v", v.Of(0x8000))
	}
	v.Of(0x8000)[0] = 77
	if v.Of(0x8000)[0] != 0 || len((Values{}).Of(8)) != 1 {
		t.Error("Of shares")
	}
	if list, v, e := Runs(test, 3); e != api.ErrStates || list != nil || !reflect.DeepEqual(v, Values{}) {
		t.Errorf("most 3: %d", e)
	}
	if _, _, e := Runs(test, -5); e != api.ErrStates {
		t.Errorf("most -5: %d", e)
	}
}

func TestGrowing(t *testing.T) { // P21.1: words that hang on one another have an end
	core := func(n, a, b string) string {
		return "core " + n + " table 0x1000\nreg X1 = " + a + "\nreg X3 = " + b + "\nLDR X0,[X1]\nADD X0,X0,#1\nSTR X0,[X3]\n"
	}
	test := read(t, "test lb\ntable 0x1000\ncell 0x1000 = block 0\n"+core("0", "0x8000", "0x8008")+core("1", "0x8008", "0x8000")+"exists true")
	list, e := Outcomes(test, 1500)
	r, f := explore.Explore(test, 20000)
	if e != api.OK || f != api.OK || len(list) != 3 || !reflect.DeepEqual(texts(list), texts(r.Outcomes)) {
		t.Errorf("%d outcomes, %d, %d", len(list), e, f)
	}
}

func texts(list []api.Outcome) []string {
	var out []string
	for _, o := range list {
		out = append(out, explore.Text(o))
	}
	return out
}

// shape: of a candidate all that counts.
func shape(t *testing.T, test api.Test, c axiom.Candidate) string {
	t.Helper()
	g, e := axiom.Build(test, c)
	if e != api.OK || !g.Rel.Acyclic() {
		t.Fatalf("a candidate that isn't consistent: %d", e)
	}
	cells := map[uint64][]int{}
	for _, w := range c.Order {
		cells[g.Events[w].Addr] = append(cells[g.Events[w].Addr], w)
	}
	return fmt.Sprint(c.Answers, c.From, c.After, cells)
}

func TestSamples(t *testing.T) { // P21.1 to P21.3
	refused := 0
	for seed := range uint64(160) {
		text := sample.Text(seed+20000, 1+int(seed%3), 2+int(seed%3))
		test := read(t, text)
		runs, v, e := Runs(test, api.MaxChoices)
		if e != api.OK {
			refused++
			continue
		}
		seen, found := map[string]int{}, map[string]int{}
		e = Each(test, 3000, func(c axiom.Candidate) bool {
			seen[shape(t, test, c)]++
			o, _ := axiom.Outcome(test, c)
			found[explore.Text(o)]++
			known(t, test, c, runs, v)
			return true
		})
		r, f := explore.Explore(test, 20000)
		if e != api.OK || f != api.OK {
			refused++
			continue
		}
		for _, n := range seen {
			if n > 1 {
				t.Fatalf("seed %d: a candidate twice", seed)
			}
		}
		list, e := Outcomes(test, 3000)
		if e != api.OK || !slices.Equal(texts(list), texts(r.Outcomes)) || len(found) != len(list) {
			t.Fatalf("seed %d: %d: %v, not %v: %s", seed, e, texts(list), texts(r.Outcomes), text)
		}
	}
	t.Logf("%d refused", refused)
	if refused > 100 {
		t.Errorf("%d refused", refused)
	}
}

// known: a candidate's answers are among the runs, what is written among the values.
func known(t *testing.T, test api.Test, c axiom.Candidate, runs [][][]trace.Answer, v Values) {
	t.Helper()
	for core, list := range c.Answers {
		if !slices.ContainsFunc(runs[core], func(x []trace.Answer) bool { return slices.Equal(x, list) }) {
			t.Fatal("answers that no run has")
		}
	}
	g, _ := axiom.Build(test, c)
	for _, w := range c.Order {
		if !slices.Contains(v.Of(g.Events[w].Addr), g.Events[w].Value) {
			t.Fatal("a word that no cell may hold")
		}
	}
}

func TestChanges(t *testing.T) { // P21.3: of tables that are changed
	for seed := range uint64(60) {
		text := sample.Change(seed+500, 1+int(seed%3))
		test := read(t, text)
		list, e := Outcomes(test, 20000)
		r, f := explore.Explore(test, 20000)
		if e == api.OK && f == api.OK && !slices.Equal(texts(list), texts(r.Outcomes)) {
			t.Fatalf("seed %d: %v, not %v: %s", seed, texts(list), texts(r.Outcomes), text)
		}
	}
}

// ownUnderWay: an own walk may begin ahead of the last write to a first descriptor, and go on behind it.
const ownUnderWay = `test sample
table 0x1000
table 0x2000
cell 0x1000 = to 0x2000
cell 0x1008 = block 0
cell 0x2030 = page 0x9000
cell 0x9000 = 3
cell 0x2028 = page 0x9000 unused
core 0 table 0x1000
reg X1 = 0x5000
reg X2 = 0x202028
reg X4 = 0x20a000
reg X5 = page 0xa000
reg X8 = 1
LDR X7,[X1]
STLR X8,[X4]
EOR X11,X7,X7
STR X5,[X2]
DSB SY
STR XZR,[X2]
handler
MRS X13,ESR_EL1
ERET
core 1 space 7 table 0x1000
reg X1 = 0x5000
reg X4 = 0x20a000
reg X6 = 5
reg X16 = 0x201000
LDR X12,[X6]
STR X7,[X4]
STR XZR,[X16]
TLBI ASIDE1IS,X7
DMB SY
LDR X7,[X1]
handler
MRS X13,ESR_EL1
ERET
core 2 table 0x1000
reg X1 = 0x5000
reg X3 = 0x209000
reg X6 = 5
reg X8 = 1
LDAR X7,[X3]
ADD X1,X1,X11
LDR X12,[X6]
STR X8,[X3]
ISB
STR X8,[X1]
handler
MRS X13,ESR_EL1
LDR X14,[X3]
ERET
exists true
`

// halfUnderWay: so may the first half of a walk.
const halfUnderWay = `test sample
table 0x1000
table 0x2000
cell 0x1000 = to 0x2000
cell 0x1008 = block 0
cell 0x2030 = page 0x9000
cell 0x9000 = 3
cell 0x2028 = page 0x9000
core 0 space 7 table 0x1000
reg X1 = 0x5000
reg X2 = 0x202028
reg X3 = 0x209000
reg X4 = 0x20a000
reg X5 = page 0xa000
reg X6 = 5
reg X8 = 1
LDR X12,[X6]
CBNZ X9,.+3
STR X8,[X1]
STR X5,[X2]
LDR X10,[X4]
STR X8,[X1]
handler
LDR X14,[X3]
ERET
core 1 space 7 table 0x1000
reg X15 = block 0
reg X16 = 0x201000
CMP X7,X9
DSB SY
STR X15,[X16]
CBZ X7,.+3
DSB SY
EOR X11,X7,X7
exists true
`

func TestUnderWay(t *testing.T) { // P21.3
	for text, want := range map[string]int{ownUnderWay: 40, halfUnderWay: 5} {
		test := read(t, text)
		list, e := Outcomes(test, 20000)
		r, f := explore.Explore(test, 20000)
		if e != api.OK || f != api.OK || len(list) != want || !slices.Equal(texts(list), texts(r.Outcomes)) {
			t.Errorf("%d outcomes, and %d; %d, %d: %s", len(list), len(r.Outcomes), e, f, text)
		}
	}
}
