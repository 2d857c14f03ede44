package diy

import (
	"reflect"
	"slices"
	"strings"
	"testing"

	"granule/api"
	"granule/cond"
	"granule/enum"
	"granule/explore"
	"granule/proper"
)

func TestLinks(t *testing.T) { // P24.1
	want := "PoRR PoRW PoWR PoWW DmbRR DmbRW DmbWR DmbWW DsbRR DsbRW DsbWR DsbWW AddrRR AddrRW DataRW CtrlRR CtrlRW CtrlIsbRR CtrlIsbRW Rfe Fre Coe"
	if Show(Links()) != want {
		t.Errorf("Links: %s", Show(Links()))
	}
	for _, l := range Links() {
		got, e := Read(Name(l))
		if e != api.OK || len(got) != 1 || got[0] != l {
			t.Errorf("Read(%s): %v, %d", Name(l), got, e)
		}
		weak := l.Kind == Po || l.Kind == Ctrl && !l.To
		if Strong(l) == weak || Outer(l) != slices.Contains([]int{Rfe, Fre, Coe}, l.Kind) {
			t.Errorf("Strong or Outer of %s", Name(l))
		}
	}
	for l, name := range map[Link]string{{}: "", {Kind: 11}: "", {Kind: -1}: "", {Kind: Data}: "Data", {Kind: Addr, From: true, To: true}: "Addr", {Kind: Rfe}: "Rfe", {Kind: Fre, From: true}: "Fre"} {
		if Name(l) != name || Strong(l) {
			t.Errorf("Name(%v): %s", l, Name(l))
		}
	}
	if !Outer(Link{Kind: 99}) || Outer(Link{Kind: -99}) {
		t.Error("Outer")
	}
	if l, e := Read(" PoWW\tRfe\n "); e != api.OK || Show(l) != "PoWW Rfe" {
		t.Errorf("Read: %v, %d", l, e)
	}
	if l, e := Read(""); e != api.OK || len(l) != 0 || Show(nil) != "" {
		t.Errorf("Read of nothing: %v, %d", l, e)
	}
	for _, s := range []string{"Po", "PoWW Rfe,", "RfeWR", "DataWW", "powW", "Data", "PoWW  x"} {
		if l, e := Read(s); l != nil || e != api.ErrName {
			t.Errorf("Read(%q): %v, %d", s, l, e)
		}
	}
	for _, name := range []string{"", "mp", "MP ", "2+2w"} {
		if Known(name) != "" {
			t.Errorf("Known(%q)", name)
		}
	}
}

func made(t *testing.T, s string) Cycle {
	t.Helper()
	l, e := Read(s)
	if e != api.OK {
		t.Fatalf("%s: %d", s, e)
	}
	c, e := Make(l)
	if e != api.OK {
		t.Fatalf("%s: %d", s, e)
	}
	return c
}

func TestMake(t *testing.T) { // P24.2
	c := made(t, Known("WRC"))
	want := Cycle{Core: []int{0, 0, 1, 1, 2}, Place: []int{0, 1, 1, 0, 0}, Value: []int{1, 1, 1, 0, 1}, Asked: []bool{true, false, true, true, false}, Cells: 2, Writes: []int{1, 1}}
	want.Links = c.Links
	if !reflect.DeepEqual(c, want) || Show(c.Links) != "PoRW Rfe PoRR Fre Rfe" {
		t.Errorf("WRC: %+v", c)
	}
	c = made(t, "Coe PoWR Fre PoWW")
	want = Cycle{Core: []int{0, 0, 1, 1}, Place: []int{0, 1, 1, 0}, Value: []int{2, 0, 1, 1}, Asked: []bool{false, true, false, false}, Cells: 2, Writes: []int{2, 1}}
	want.Links = c.Links
	if !reflect.DeepEqual(c, want) || Show(c.Links) != "PoWR Fre PoWW Coe" {
		t.Errorf("R, turned: %+v", c)
	}
	for s, e := range map[string]api.Errno{
		"":                                        api.ErrRange,
		"PoWW Rfe":                                api.ErrRange,
		"PoWW Rfe PoRR Fre PoWW":                  api.OK,
		"PoWR Fre PoWR Rfe":                       api.ErrRange,
		"Rfe Fre Rfe Fre":                         api.ErrRange,
		"Rfe Fre Rfe PoRW":                        api.ErrRange,
		"PoRR PoRR PoRR":                          api.ErrRange,
		"PoWW Coe Coe PoWW Coe":                   api.ErrLong,
		"PoRR PoRR PoRR PoRR PoRW Rfe PoRW Rfe":   api.ErrLong,
		"PoRW Rfe PoRW Rfe Fre Rfe Fre Rfe":       api.ErrLong,
		"PoRW Rfe PoRW Rfe PoRW Rfe PoRW Rfe":     api.OK,
		"PoRW Rfe PoRW Rfe PoRW Rfe PoRW Coe Rfe": api.ErrLong,
	} {
		l, _ := Read(s)
		c, got := Make(l)
		if got != e || e != api.OK && !reflect.DeepEqual(c, Cycle{}) {
			t.Errorf("Make(%s): %d", s, got)
		}
	}
	if _, e := Make([]Link{{Kind: Data, From: true, To: true}, {Kind: Coe, From: true, To: true}, {Kind: Coe, From: true, To: true}, {Kind: Po, From: true, To: true}}); e != api.ErrRange {
		t.Errorf("a link that may not be: %d", e)
	}
	l, _ := Read(Known("MP"))
	again := slices.Clone(l)
	c, _ = Make(l)
	c.Links[0] = Link{}
	if !slices.Equal(l, again) {
		t.Error("Make shares")
	}
}

// so: is a cycle's condition so of some outcome, of the machine and of candidates?
func so(t *testing.T, name, links string) bool {
	t.Helper()
	s := Test(name, made(t, links))
	if p := proper.Check(s); p.Code != api.OK || s.Test.Name != name || !reflect.DeepEqual(s.Places.Cores, []int(nil)) {
		t.Fatalf("%s: %v", links, p)
	}
	r, e := explore.Explore(s.Test, api.MaxStates)
	list, f := enum.Outcomes(s.Test, 20000)
	if e != api.OK || f != api.OK || len(list) != len(r.Outcomes) {
		t.Fatalf("%s: %d, %d, %d outcomes and %d", links, e, f, len(r.Outcomes), len(list))
	}
	holds := cond.Verdict(s.Test.Cond, s.Test.Forall, r.Outcomes)
	if holds != cond.Verdict(s.Test.Cond, s.Test.Forall, list) || s.Test.Forall {
		t.Errorf("%s: the ways differ", links)
	}
	return holds
}

func TestKnown(t *testing.T) { // P24.3 to P24.5
	for _, name := range []string{"MP", "SB", "LB", "S", "R", "2+2W", "WRC", "IRIW"} {
		weak := Known(name)
		if !so(t, name, weak) {
			t.Errorf("%s isn't so", name)
		}
		for _, link := range []string{"Dmb", "Dsb"} {
			if so(t, name, strings.ReplaceAll(weak, "Po", link)) {
				t.Errorf("%s with %s is so", name, link)
			}
		}
	}
	for s, want := range map[string]bool{
		"DmbWW Rfe AddrRR Fre": false, "DmbWW Rfe CtrlRR Fre": true, "DmbWW Rfe CtrlIsbRR Fre": false, "PoWW Rfe DmbRR Fre": true, "DmbWW Rfe PoRR Fre": true,
		"DataRW Rfe DataRW Rfe": false, "DataRW Rfe PoRW Rfe": true, "CtrlRW Rfe AddrRW Rfe": false, "DmbWW Rfe DataRW Coe": false, "Rfe DataRW Rfe AddrRR Fre": false,
		"Rfe AddrRR Fre Rfe AddrRR Fre": false, "Rfe AddrRR Fre Rfe PoRR Fre": true, "DmbWR Fre PoWR Fre": true,
	} {
		if so(t, "x", s) != want {
			t.Errorf("%s: %t", s, !want)
		}
	}
}

func TestPrinted(t *testing.T) { // P24.3
	s := Test("wrc", made(t, "Rfe DataRW Rfe CtrlIsbRR Fre"))
	again, p := proper.Read(proper.Print(s))
	if p.Code != api.OK || !reflect.DeepEqual(again.Test, s.Test) {
		t.Errorf("%v: %s", p, proper.Print(s))
	}
	text := proper.Print(s)
	for _, row := range []string{"core 2 table", "CBNZ", "ISB", "0x8008", "exists 0:X0=0x1 /\\ 1:X0=0x1 /\\ 1:X1=0x0"} {
		if !strings.Contains(text, row) {
			t.Errorf("no %s in %s", row, text)
		}
	}
	Test("x", Cycle{})
	Test("x", Cycle{Links: make([]Link, 3)})
	Test("x", Cycle{Links: make([]Link, 1), Core: []int{-1}, Place: []int{0}, Value: []int{0}, Asked: []bool{true}})
}
