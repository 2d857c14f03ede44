package tool

import (
	"strings"
	"testing"

	"granule/api"
	"granule/enum"
	"granule/explore"
	"granule/proper"
)

// asked: is a test's question answered so, and do both ways come to the same?
func asked(t *testing.T, text string, want bool) explore.Report {
	t.Helper()
	s, a := Ask(text, api.MaxStates)
	if a.Problem.Code != api.OK {
		t.Fatalf("%v in %s", a.Problem, text)
	}
	if a.Holds != want {
		t.Errorf("%t: %s", a.Holds, Tell(text, api.MaxStates))
	}
	list, e := enum.Outcomes(s.Test, api.MaxChoices)
	if e != api.OK || len(list) != len(a.Report.Outcomes) {
		t.Fatalf("%d outcomes by candidates, not %d: %d", len(list), len(a.Report.Outcomes), e)
	}
	for i, o := range list {
		if explore.Text(o) != explore.Text(a.Report.Outcomes[i]) {
			t.Errorf("an outcome of candidates: %s, not %s", explore.Text(o), explore.Text(a.Report.Outcomes[i]))
		}
	}
	t.Logf("%d states, %d outcomes", a.Report.States, len(list))
	return a.Report
}

// The examples of the whole that the document tells.

func TestFirstExamples(t *testing.T) { // 1 to 3
	asked(t, one, true)
	without := strings.Replace(one, "cell 0x1000 = 0x401\n", "", 1)
	r := asked(t, without, false)
	if len(r.Outcomes) != 1 || len(r.Outcomes[0].Faults[0]) != 1 || r.Outcomes[0].Faults[0][0] != (api.Fault{Kind: api.FaultTrans, Level: 1, Write: true}) {
		t.Errorf("Outcomes: %+v", r.Outcomes)
	}
	asked(t, strings.Replace(without, "exists [0x8000]=7", "handler\nMRS X2,ESR_EL1\nforall 0:X2=0x96000045 /\\ [0x8000]=0 /\\ faults 0=1", 1), true)
}

func TestBuffering(t *testing.T) { // 4
	asked(t, buffering, true)
	asked(t, strings.ReplaceAll(buffering, "NOP", "DMB SY"), false)
}

func TestForward(t *testing.T) { // 5
	text := strings.Replace(one, "exists [0x8000]=7", "LDR X2,[X1]\nforall 0:X2=7", 1)
	r := asked(t, text, true)
	if len(r.Outcomes) != 1 {
		t.Errorf("%d outcomes", len(r.Outcomes))
	}
	if got := Replay(text, "fetch 0 0 0\nwalk 0 0 8\nbind 0 0 0\nfetch 0 0 0\nbind 0 1 0\nact 0 1 0\nact 0 0 0"); got != explore.Text(r.Outcomes[0]) {
		t.Errorf("Replay: %s", got)
	}
}

// page: a core that takes a page away, and another one that loads by it, behind a flag.
const page = `test page
table 0x1000
table 0x2000
cell 0x1000 = to 0x2000
cell 0x1008 = block 0
cell 0x2028 = page 0x9000
cell 0x9000 = 5
core 0 table 0x1000
reg X1 = 0x202028
reg X3 = 0x20a000
reg X4 = 1
STR XZR,[X1]
FIRST
STR X4,[X3]
core 1 table 0x1000
reg X1 = 0x5000
reg X3 = 0x20a000
LDR X0,[X3]
SECOND
LDR X2,[X1]
exists 0:X4=1 /\ 1:X0=1 /\ 1:X2=5
`

func filled(first, second string) string {
	text := strings.Replace(page, "FIRST", strings.ReplaceAll(first, ";", "\n"), 1)
	return strings.Replace(text, "SECOND", strings.ReplaceAll(second, ";", "\n"), 1)
}

func TestPage(t *testing.T) { // 6 and 7
	asked(t, filled("DSB SY", "DSB SY"), true)
	asked(t, filled("DSB SY;TLBI VMALLE1IS;DSB SY", "DSB SY"), false)
	asked(t, filled("DSB SY;TLBI VMALLE1IS", "DSB SY"), true)
	asked(t, filled("DSB SY;TLBI VMALLE1;DSB SY", "DSB SY"), true)
	asked(t, filled("TLBI VMALLE1IS;DSB SY", "DSB SY"), true)
	asked(t, strings.Replace(filled("DSB SY;TLBI VAAE1IS,X9;DSB SY", "DSB SY"), "reg X4", "reg X9 = 5\nreg X4", 1), false)
	asked(t, strings.Replace(filled("DSB SY;TLBI VAAE1IS,X9;DSB SY", "DSB SY"), "reg X4", "reg X9 = 6\nreg X4", 1), true)
}

func TestGuess(t *testing.T) { // 8
	text := `test guess
table 0x1000
cell 0x1000 = block 0
cell 0x8000 = 1
core 0 table 0x1000
reg X1 = 0x8000
reg X3 = 0x9000
LDR X0,[X1]
CBNZ X0,.+2
LDR X2,[X3]
NOP
forall 0:X2=0 /\ 0:X0=1
`
	asked(t, text, true)
	if got := Replay(text, "fetch 0 0 0\nwalk 0 0 8\nbind 0 0 0\nfetch 0 0 0\nfetch 0 0 0\nbind 0 2 0\nact 0 2 0\nact 0 0 0\nfetch 0 0 0"); !strings.HasPrefix(got, "core 0 X0=0x1 X1=0x8000 X3=0x9000\n") {
		t.Errorf("Replay: %s", got)
	}
}

func TestSpaces(t *testing.T) { // 9
	text := strings.Replace(filled("DSB SY;TLBI ASIDE1IS,X9;DSB SY", "DSB SY"), "core 0 table", "core 0 space 3 table", 1)
	text = strings.Replace(strings.Replace(text, "core 1 table", "core 1 space 3 table", 1), "reg X4", "reg X9 = 0x3000000000000\nreg X4", 1)
	asked(t, text, true)
	asked(t, strings.Replace(text, "page 0x9000", "page 0x9000 own", 1), false)
}

func TestBackward(t *testing.T) { // 10
	text := strings.Replace(one, "STR X0,[X1]", "B .+0", 1)
	if _, p := proper.Read(text); p != (api.Problem{Code: api.ErrBackward, At: strings.Index(text, "B .")}) || p.Code != 134 {
		t.Errorf("%v", p)
	}
}
