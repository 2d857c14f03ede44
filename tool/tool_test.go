package tool

import (
	"math"
	"reflect"
	"slices"
	"strings"
	"testing"

	"granule/api"
	"granule/explore"
	"granule/litmus"
)

const one = `test a
table 0x1000
cell 0x1000 = 0x401
core 0 table 0x1000
reg X0 = 7
reg X1 = 0x8000
STR X0,[X1]
exists [0x8000]=7
`

const told = `test a
states 2
outcome 0
  core 0 X0=0x7 X1=0x8000
  cell 0x1000=0x401
  cell 0x8000=0x7
exists [0x8000]=0x7: yes
shown by outcome 0
  fetch 0 0 0
  walk 0 0 8
  bind 0 0 0
  act 0 0 0
discipline kept
`

func TestTell(t *testing.T) { // P23.3: the document's first example
	if got := Tell(one, 100); got != told {
		t.Errorf("Tell: %s", got)
	}
	no := strings.Replace(one, "]=7", "]=8", 1)
	if got := Tell(no, 100); !strings.Contains(got, "exists [0x8000]=0x8: no\ndiscipline kept\n") {
		t.Errorf("Tell: %s", got)
	}
	all := strings.Replace(one, "exists", "forall", 1)
	if got := Tell(all, 100); !strings.Contains(got, "forall [0x8000]=0x7: yes\ndiscipline kept\n") {
		t.Errorf("Tell: %s", got)
	}
	if got := Tell(strings.Replace(no, "exists", "forall", 1), 100); !strings.Contains(got, "forall [0x8000]=0x8: no\nshown by outcome 0\n  fetch 0 0 0\n") {
		t.Errorf("Tell: %s", got)
	}
	if got := Tell(strings.Replace(strings.Replace(one, "X0 = 7", "X0 = 6", 1), "0x8000\n", "0x1000\n", 1), 100); !strings.HasSuffix(got, "discipline kept\n") {
		t.Errorf("Tell: %s", got)
	}
	broken := strings.Replace(strings.Replace(one, "X0 = 7", "X0 = block 0x200000", 1), "0x8000\n", "0x1000\n", 1)
	if got := Tell(broken, 100); !strings.HasSuffix(got, "discipline broken\n") {
		t.Errorf("Tell: %s", got)
	}
	for text, want := range map[string]string{"": "error 110 at 0\n", "test a\n#": "error 110 at 7\n", "test a#": "error 100 at 6\n"} {
		if got := Tell(text, 100); got != want {
			t.Errorf("Tell(%q): %s", text, got)
		}
	}
	if got := Tell(one, 0); got != "error 1 at 0\n" {
		t.Errorf("most 0: %s", got)
	}
	if got := Tell(one, 1); got != "error 200 at 0\n" {
		t.Errorf("most 1: %s", got)
	}
}

func TestAsk(t *testing.T) { // P23.1
	s, a := Ask(one, 100)
	if s.Test.Name != "a" || a.Problem != (api.Problem{}) || !a.Holds || a.Shows != 0 || !a.Kept || !a.Known || len(a.Report.Outcomes) != 1 {
		t.Errorf("Ask: %+v", a)
	}
	for text, p := range map[string]api.Problem{"test a": {Code: api.ErrSyntax, At: 6}, strings.Replace(one, "core 0 table 0x1000", "core 0 table 0x2000", 1): {Code: api.ErrNone, At: strings.Index(one, "core")}} {
		s, a := Ask(text, 100)
		if !reflect.DeepEqual(s, litmus.Source{}) || !reflect.DeepEqual(a, Answer{Problem: p, Shows: -1}) {
			t.Errorf("Ask(%q): %+v", text, a)
		}
	}
	for most, e := range map[int]api.Errno{0: api.ErrRange, 200001: api.ErrRange, 1: api.ErrStates} {
		s, a := Ask(one, most)
		if !reflect.DeepEqual(s, litmus.Source{}) || !reflect.DeepEqual(a, Answer{Problem: api.Problem{Code: e}, Shows: -1}) {
			t.Errorf("most %d: %+v", most, a)
		}
	}
	if _, a := Ask(one, api.MaxStates); !a.Known || !a.Kept {
		t.Errorf("the greatest most: %+v", a)
	}
}

const buffering = `test sb
table 0x1000
cell 0x1000 = block 0
core 0 table 0x1000
reg X0 = 1
reg X1 = 0x8000
reg X3 = 0x8008
STR X0,[X1]
NOP
LDR X2,[X3]
core 1 table 0x1000
reg X0 = 1
reg X1 = 0x8008
reg X3 = 0x8000
STR X0,[X1]
NOP
LDR X2,[X3]
exists 0:X2=0 /\ 1:X2=0
`

func TestReplay(t *testing.T) { // P23.4, P23.5
	for text, yes := range map[string]bool{buffering: true, strings.ReplaceAll(buffering, "NOP", "DMB SY"): false} {
		_, a := Ask(text, 20000)
		if a.Holds != yes || (a.Shows >= 0) != yes {
			t.Errorf("Ask: %t, %d", a.Holds, a.Shows)
		}
		for i, o := range a.Report.Outcomes {
			lines := ""
			for _, p := range a.Report.Picks[i] {
				lines += "  " + Pick(p) + "\n"
			}
			if got := Replay(text, lines); got != explore.Text(o) {
				t.Errorf("Replay: %s, not %s", got, explore.Text(o))
			}
		}
	}
	if got := Replay("test a", ""); got != "error 110 at 6\n" {
		t.Errorf("Replay of no test: %s", got)
	}
	if got := Replay(one, "fetch 0 0"); got != "error 170 at 0\n" {
		t.Errorf("Replay of no picks: %s", got)
	}
	if got := Replay(one, "fetch 0 0 0\n"); got != "not final\n" {
		t.Errorf("Replay of too few: %s", got)
	}
	if got := Replay(one, "\n act 0 0 0\nfetch 0 0 0\n\twalk 0 0 0x8\r\nbind 0 0 0\nact 0 0 0"); got != "core 0 X0=0x7 X1=0x8000\ncell 0x1000=0x401\ncell 0x8000=0x7\n" {
		t.Errorf("Replay: %s", got)
	}
}

func TestPicks(t *testing.T) { // P23.2
	for p, want := range map[api.Pick]string{
		{Kind: api.PickFetch}: "fetch 0 0 0", {Kind: api.PickWalk, Core: 1, Step: 2, Arg: 3}: "walk 1 2 3", {Kind: api.PickStep}: "step 0 0 0", {Kind: api.PickBind}: "bind 0 0 0",
		{Kind: api.PickOwn}: "own 0 0 0", {Kind: api.PickAct}: "act 0 0 0", {Kind: api.PickDrop}: "drop 0 0 0", {Kind: api.PickEvict}: "evict 0 0 0",
		{}: " 0 0 0", {Kind: 9, Core: -1, Arg: math.MinInt}: " -1 0 -9223372036854775808", {Kind: -3}: " 0 0 0",
	} {
		if Pick(p) != want {
			t.Errorf("Pick(%v): %q", p, Pick(p))
		}
	}
	got, ok := Picks("fetch 0 0 1\n\n \t\nact\t0x1f 7 1073741824 \r\n")
	if !ok || !slices.Equal(got, []api.Pick{{Kind: api.PickFetch, Arg: 1}, {Kind: api.PickAct, Core: 31, Step: 7, Arg: 1 << 30}}) {
		t.Errorf("Picks: %v", got)
	}
	if got, ok := Picks(""); !ok || len(got) != 0 {
		t.Error("Picks of nothing")
	}
	for _, s := range []string{"fetch", "fetch 0 0", "fetch 0 0 0 0", "Fetch 0 0 0", "0 0 0", "fetch 0 0 -1", "fetch 0 x 0", "fetch 1073741825 0 0", "fetch 0 0 0\nfetch", "jump 0 0 0", "fetch 0 0 0, act 0 0 0"} {
		if got, ok := Picks(s); ok || got != nil {
			t.Errorf("Picks(%q): %v", s, got)
		}
	}
	if Problem(api.Problem{Code: 110, At: 7}) != "error 110 at 7\n" || Problem(api.Problem{Code: -1, At: -2}) != "error -1 at -2\n" {
		t.Error("Problem")
	}
}
