package bbm

import (
	"math"
	"strings"
	"testing"

	"granule/api"
	"granule/axiom"
	"granule/enum"
	"granule/explore"
	"granule/linear"
	"granule/litmus"
	"granule/machine"
	"granule/proper"
	"granule/sample"
)

func read(t *testing.T, text string) litmus.Source {
	t.Helper()
	s, p := proper.Read(text)
	if p.Code != api.OK {
		t.Fatalf("%v in %s", p, text)
	}
	return s
}

// change: a core that writes to the entry of the page 0x5000, row by row; X5 is another descriptor, X4 the one that stands there.
func change(t *testing.T, rows string) litmus.Source {
	return read(t, `test bbm
table 0x1000
table 0x2000
cell 0x1000 = to 0x2000
cell 0x1008 = block 0
cell 0x2028 = page 0x9000
core 0 table 0x1000
reg X1 = 0x202028
reg X3 = 0x20a000
reg X4 = page 0x9000
reg X5 = page 0xa000
`+strings.ReplaceAll(rows, ";", "\n")+"\nexists true")
}

func TestWords(t *testing.T) { // P22.1
	if !Valid(1) || Valid(2) || Valid(0) || !Valid(math.MaxUint64) {
		t.Error("Valid")
	}
	list := []uint64{0x1000, 0x3000}
	if !Entry(list, 0x1ff8) || !Entry(list, 0x3000) || Entry(list, 0x2000) || Entry(list, 0xff8) || Entry(nil, 0) || Entry([]uint64{0x1008}, 0x1008) {
		t.Error("Entry")
	}
}

func TestKept(t *testing.T) { // P22.2, P22.3
	for rows, want := range map[string]bool{
		"STR XZR,[X1];DSB SY;TLBI VMALLE1IS;DSB SY;STR X5,[X1]":            true,
		"STR XZR,[X1];DSB SY;TLBI VMALLE1IS;STR X5,[X1]":                   false,
		"STR XZR,[X1];TLBI VMALLE1IS;DSB SY;STR X5,[X1]":                   false,
		"STR XZR,[X1];DSB SY;TLBI VMALLE1;DSB SY;STR X5,[X1]":              false,
		"STR XZR,[X1];DSB SY;TLBI VAAE1IS,XZR;DSB SY;STR X5,[X1]":          false,
		"STR XZR,[X1];DSB LD;NOP;TLBI VMALLE1IS;DMB SY;DSB ST;STR X5,[X1]": true,
		"DSB SY;STR XZR,[X1];TLBI VMALLE1IS;DSB SY;STR X5,[X1]":            false,
		"STR X5,[X1]":                    false,
		"STR X4,[X1]":                    true,
		"STR XZR,[X1]":                   true,
		"STR X5,[X3]":                    true,
		"STR XZR,[X1,#8];STR X5,[X1,#8]": false,
		"STR X5,[X1,#8]":                 true,
		"STR X5,[X1,#8];STR X4,[X1,#8]":  false,
		"STR XZR,[X1];STR X3,[X1]":       true,
		"STR XZR,[X1];STR X4,[X1]":       false,
		"NOP\ncore 1 table 0x1000\nreg X1 = 0x202028\nreg X5 = page 0xa000\nSTR XZR,[X1]": true,
	} {
		got, e := Kept(change(t, rows), 2000)
		if e != api.OK || got != want {
			t.Errorf("%s: %t, %d", rows, got, e)
		}
	}
	s := change(t, "STR XZR,[X1];DSB SY;TLBI VMALLE1IS;DSB SY;NOP\ncore 1 table 0x1000\nreg X1 = 0x202028\nreg X5 = page 0xa000\nDSB SY;TLBI VMALLE1IS;DSB SY;STR X5,[X1]")
	if got, e := Kept(s, 20000); e != api.OK || got {
		t.Errorf("another core's write: %t, %d", got, e)
	}
	if got, e := Kept(s, 0); e != api.ErrRange || got {
		t.Errorf("most 0: %t, %d", got, e)
	}
	if got, e := Kept(change(t, "STR X4,[X1];LDR X0,[X3]"), 1); e != api.ErrStates || got {
		t.Errorf("most 1: %t, %d", got, e)
	}
	s.Test.Cond = api.Cond{Kind: 99}
	if _, e := Kept(s, 20000); e != api.OK {
		t.Errorf("its condition plays a part: %d", e)
	}
}

func TestFirst(t *testing.T) { // P22.2
	s := change(t, "STR X4,[X1];STR XZR,[X3];STR X5,[X1];STR X4,[X1]")
	n := 0
	enum.Each(s.Test, 2000, func(c axiom.Candidate) bool {
		n++
		g, _ := axiom.Build(s.Test, c)
		if got := First(s, g, c); got != g.Act(0, 2) {
			t.Errorf("First: %d", got)
		}
		if First(litmus.Source{Test: s.Test}, g, c) != -1 {
			t.Error("cells of no table")
		}
		First(s, nil, c)
		First(s, &axiom.Graph{}, c)
		return true
	})
	if n == 0 {
		t.Error("no candidate")
	}
}

func TestSingle(t *testing.T) { // P22.4
	s := change(t, "STR X5,[X1]")
	picks := []api.Pick{{Kind: api.PickWalk, Arg: 5}, {Kind: api.PickStep}, {Kind: api.PickStep}, {Kind: api.PickFetch}, {Kind: api.PickWalk, Arg: 0x202}, {Kind: api.PickBind, Arg: 1}, {Kind: api.PickAct}}
	if n := Single(s.Test, picks); n != 8 || Single(s.Test, nil) != 1 {
		t.Errorf("Single: %d", n)
	}
	if n := Single(s.Test, append(picks, api.Pick{Kind: api.PickStep}, api.Pick{Kind: api.PickEvict})); n != 8 {
		t.Errorf("Single of two entries: %d", n)
	}
}

func TestStale(t *testing.T) { // P22.5, P22.7
	s := change(t, "STR XZR,[X1];DSB SY;TLBI VMALLE1IS;DSB SY;LDR X0,[X3]\ncore 1 table 0x1000\nreg X1 = 0x5000\nLDR X0,[X1]")
	pairs := 0
	e := enum.Each(s.Test, 20000, func(c axiom.Candidate) bool {
		if n, e := Stale(s.Test, c); n != -1 || e != api.OK {
			t.Errorf("Stale of a consistent one: %d, %d", n, e)
		}
		g, _ := axiom.Build(s.Test, c)
		pairs += len(g.Pairs)
		return true
	})
	if e != api.OK || pairs == 0 {
		t.Fatalf("Each: %d", e)
	}
	enum.Each(s.Test, 20000, func(c axiom.Candidate) bool {
		g, _ := axiom.Build(s.Test, c)
		for i, p := range g.Pairs {
			v := g.Events[p[1]]
			if v.Core != 1 || v.Kind != api.EvRead || c.After[i] {
				continue
			}
			c.After[i] = true // the load by the old entry comes behind the invalidation now
			if n, e := Stale(s.Test, c); n != p[1] || e != api.OK {
				t.Errorf("Stale: %d, %d", n, e)
			}
			c.After[i] = false
		}
		return true
	})
	if n, e := Stale(s.Test, axiom.Candidate{}); n != -1 || e != api.ErrCand {
		t.Errorf("Stale of none: %d, %d", n, e)
	}
}

// dice are numbers that follow from a first one.
type dice uint64

func (d *dice) below(n int) int {
	*d = *d*6364136223846793005 + 1442695040888963407
	return int(uint64(*d) >> 33 % uint64(n))
}

// wander: picks that lead somewhere, with walks as often as may be.
func (d *dice) wander(test api.Test) []api.Pick {
	var picks []api.Pick
	s := machine.Begin(test)
	for range 600 {
		list := explore.Picks(test, s, []int{5, 5, 0x202, 0x20a})
		p := list[d.below(len(list))]
		next, ok := machine.Do(test, s, p)
		if ok {
			picks, s = append(picks, p), next
		}
		if machine.Final(test, s) {
			break
		}
	}
	return picks
}

func TestDiscipline(t *testing.T) { // P22.6
	kept, broken, twice := 0, 0, 0
	rows := []string{"STR XZR,[X1]", "DSB SY", "TLBI VMALLE1IS", "DSB SY", "STR X5,[X1]", "STR X4,[X1]", "LDR X0,[X6]", "TLBI VAAE1IS,X7", "DMB SY", "STR XZR,[X1]"}
	for seed := range uint64(1500) {
		d := dice(seed)
		text := "NOP"
		from := d.below(4)
		for i := range 6 {
			row := rows[d.below(len(rows))]
			if from > 0 && i < 5 {
				row = rows[i]
			}
			text += "\n" + row
		}
		text += "\ncore 1 table 0x1000\nreg X1 = 0x202028\nreg X6 = 0x5000\nLDR X0,[X6]\n" + rows[d.below(len(rows))] + "\nLDR X2,[X6]"
		s := change(t, text)
		picks := d.wander(s.Test)
		c, _, ok := linear.Observe(s.Test, picks)
		if !ok {
			continue
		}
		g, e := axiom.Build(s.Test, c)
		if e != api.OK {
			t.Fatalf("seed %d: %d", seed, e)
		}
		all := Single(s.Test, picks) == len(picks)+1
		switch {
		case First(s, g, c) >= 0:
			broken++
			if !all {
				twice++
			}
		case !all:
			t.Fatalf("seed %d: two entries, though the discipline is kept: %s", seed, text)
		default:
			kept++
		}
	}
	t.Logf("%d kept, %d broken, %d of them with two entries", kept, broken, twice)
	if kept < 100 || twice < 10 {
		t.Errorf("%d kept, %d broken, %d of them with two entries", kept, broken, twice)
	}
}

func TestSamples(t *testing.T) { // P22.7
	for seed := range uint64(150) {
		test := read(t, sample.Text(seed+300000, 1+int(seed%2), 2+int(seed%3))).Test
		enum.Each(test, 500, func(c axiom.Candidate) bool {
			if n, e := Stale(test, c); n != -1 || e != api.OK {
				t.Fatalf("seed %d: Stale: %d, %d", seed, n, e)
			}
			return true
		})
	}
}
