package proper

import (
	"reflect"
	"slices"
	"strings"
	"testing"

	"granule/api"
	"granule/litmus"
)

const whole = `test a
table 0x1000
table 0x2000
cell 0x1000 = 0x2003
cell 0x2000 = 0x5403
core 0 table 0x1000
reg X1 = 0x10
LDR X0,[X1]
CBZ X0,.+2
STR X0,[X1,#8]
handler
MRS X2,ESR_EL1
ERET
core 1 space 7 table 0x2000
TLBI VMALLE1IS
TLBI VAE1,X3
forall 0:X0=0x1 \/ ~[0x8]=0x0
`

func TestPrint(t *testing.T) { // P13.3, P13.4, P13.5
	s, p := Read(whole)
	if p.Code != api.OK || Print(s) != whole {
		t.Fatalf("Print: %s, %v", Print(s), p)
	}
	for _, text := range []string{whole, "test b\ntable 0\ncore 0 table 0\nhandler\nexists true", strings.Replace(whole, "CBZ", "CBNZ", 1)} {
		s, p := Read(text)
		again, q := Read(Print(s))
		if p.Code != api.OK || q.Code != api.OK || !reflect.DeepEqual(s.Test, again.Test) || !reflect.DeepEqual(s.Tables, again.Tables) {
			t.Errorf("%s: %v, %v", Print(s), p, q)
		}
	}
	m := Memory(s.Test)
	if !slices.Equal(m.Cells(), s.Test.Cells) || len(Memory(api.Test{Cells: []api.Cell{{Addr: 8, Value: 1}, {Addr: 3}}}).Cells()) != 0 {
		t.Error("Memory")
	}
	Print(litmus.Source{Test: api.Test{Cores: []api.Core{{Regs: make([]uint64, 99), Code: []api.Instr{{Op: -1}}}}}})
}

// faults: texts with a mark ^ at the place of their fault.
func faults() map[string]api.Errno {
	const t = "test a\ntable 0x1000\n"
	return map[string]api.Errno{
		"^":                             api.ErrSyntax,
		"test a\n^table 8\nexists true": api.ErrBase,
		"test a\ntable 0\n^table 0x100000000\nexists 0:X0=1":                                  api.ErrBase,
		"test a\n^table 0x100000800\nexists true":                                             api.ErrBase,
		t + "^table 0x1000\ntable 1\nexists true":                                             api.ErrOverlap,
		t + "^cell 4 = 0\nexists true":                                                        api.ErrAlign,
		t + "^cell 0x100000000 = 0\nexists true":                                              api.ErrRange,
		t + "^cell 0x100000001 = 0\nexists true":                                              api.ErrAlign,
		t + "cell 8=1\ncell 16=1\n^cell 8=0\nexists true":                                     api.ErrTwice,
		t + cells(192) + "^cell 0 = 0\ncell 0=0\nexists true":                                 api.ErrLong,
		"^" + t + "exists true":                                                               api.ErrCores,
		t + cores(4) + "^core 4 table 1\nexists true":                                         api.ErrCores,
		t + "^core 0 table 8\nexists true":                                                    api.ErrBase,
		t + "^core 0 table 0x2000\nexists true":                                               api.ErrNone,
		t + "core 0 table 0x1000\n^core 1 table 0x3000\nexists true":                          api.ErrNone,
		t + "^core 0 table 8\nB .+9\nexists true":                                             api.ErrBase,
		t + "core 0 table 0x1000\n^B .+0\nexists true":                                        api.ErrBackward,
		t + "core 0 table 0x1000\nNOP\n^CBZ X0,.-1\nexists true":                              api.ErrBackward,
		t + "core 0 table 0x1000\nB .+1\nB .+2\n^B.EQ .+2\nexists true":                       api.ErrRange,
		t + "core 0 table 0x1000\n^CBNZ X0,.+2\nexists true":                                  api.ErrRange,
		t + "core 0 table 0x1000\nNOP\n^ERET\nexists true":                                    api.ErrField,
		t + "core 0 table 0x1000\nNOP\nhandler\nERET\n^B .+2\nexists 3:X0=1":                  api.ErrRange,
		t + "core 0 table 0x1000\n" + nops(16) + "^NOP\nexists true":                          api.ErrInstrs,
		t + "core 0 table 0x1000\nNOP\nhandler\n" + nops(16) + "^NOP\nexists true":            api.ErrInstrs,
		t + "core 0 table 0x1000\nB .+0\nhandler\n" + nops(16) + "^NOP\nexists true":          api.ErrInstrs,
		t + "core 0 table 0x1000\n" + nops(16) + "^NOP\nhandler\n" + nops(17) + "exists true": api.ErrInstrs,
		t + "^core 0 table 0x1000\n" + strings.Repeat("LDR X0,[X1]\n", 8) + "handler\n" + strings.Repeat("LDR X0,[X1]\n", 2) + "exists 1:X0=1": api.ErrEvents,
		t + "core 0 table 0x1000\n^exists 1:X0=1":                api.ErrNone,
		t + "core 0 table 0x1000\n^forall 0:X0=1 /\\ faults 3=1": api.ErrNone,
	}
}

func nops(n int) string { return strings.Repeat("NOP\n", n) }

func cells(n int) string {
	text := ""
	for i := range n {
		text += "cell " + string(rune('1'+i/100)) + string(rune('0'+i/10%10)) + string(rune('0'+i%10)) + "000 = 1\n"
	}
	return text
}

func cores(n int) string {
	text := ""
	for i := range n {
		text += "core " + string(rune('0'+i)) + " table 0x1000\n"
	}
	return text
}

func TestFaults(t *testing.T) { // P13.1, P13.4
	for s, e := range faults() {
		want := api.Problem{Code: e, At: strings.Index(s, "^")}
		got, p := Read(strings.Replace(s, "^", "", 1))
		if p != want || !reflect.DeepEqual(got, litmus.Source{}) {
			t.Errorf("%s: %v, not %v", s, p, want)
		}
	}
	for _, s := range []string{
		"test a\ntable 0xfffff000\n" + cells(192) + "core 0 table 0xfffff000\nexists true",
		"test a\ntable 0x1000\n" + cores(4) + "exists 3:X0=1",
		"test a\ntable 0x1000\ncore 0 space 65535 table 0x1000\n" + nops(15) + "B .+1\nhandler\n" + nops(15) + "ERET\nexists true",
		"test a\ntable 0x1000\ncore 0 table 0x1000\nB .+3\nNOP\nCBZ X0,.+1\nexists true",
	} {
		if _, p := Read(s); p.Code != api.OK {
			t.Errorf("%s: %v", s, p)
		}
	}
}

func TestRaw(t *testing.T) { // P13.1: sources that no text makes
	core := api.Core{Table: 0x1000, Code: []api.Instr{{Op: api.Nop}, {Op: api.Ldr, Imm: 4}}, Handler: []api.Instr{{Op: api.B, Imm: 1}, {Op: 77}}}
	s := litmus.Source{Tables: []uint64{0x1000}, Test: api.Test{Cores: []api.Core{core}, Cond: api.Cond{Kind: api.CondTrue}}}
	if p := Check(s); p != (api.Problem{Code: api.ErrField}) {
		t.Errorf("without places: %v", p)
	}
	s.Places.Instrs = [][]int{{5, 6, 7, 8}}
	if p := Check(s); p != (api.Problem{Code: api.ErrField, At: 6}) {
		t.Errorf("with places: %v", p)
	}
	s.Test.Cores[0].Code = core.Code[:1]
	s.Places.Instrs = [][]int{{5, 6, 7}}
	if p := Check(s); p != (api.Problem{Code: api.ErrField, At: 7}) {
		t.Errorf("in the handler: %v", p)
	}
	s.Places.Instrs = [][]int{{}}
	if p := Check(s); p != (api.Problem{Code: api.ErrField}) {
		t.Errorf("without a place: %v", p)
	}
	s.Test.Cores[0].Space = 65536
	s.Places.Cores = []int{3}
	if p := Check(s); p != (api.Problem{Code: api.ErrRange, At: 3}) {
		t.Errorf("Space: %v", p)
	}
	s.Test.Cores[0].Space = -1
	if p := Check(s); p != (api.Problem{Code: api.ErrRange, At: 3}) {
		t.Errorf("Space: %v", p)
	}
	s.Test.Cores = nil
	s.Places.Cores = []int{1, 2, 3, 4, 5}
	if p := Check(s); p != (api.Problem{Code: api.ErrCores, At: 5}) {
		t.Errorf("no core: %v", p)
	}
	s.Test.Cores = make([]api.Core, 5)
	s.Places.Cores = []int{1, 2}
	if p := Check(s); p != (api.Problem{Code: api.ErrCores}) {
		t.Errorf("five cores: %v", p)
	}
	s.Test.Cores = []api.Core{{Table: 0x1000}}
	s.Test.Cond = api.Cond{}
	s.Places.Cond = 77
	if p := Check(s); p != (api.Problem{Code: api.ErrRange, At: 77}) {
		t.Errorf("Cond: %v", p)
	}
}

func TestEvents(t *testing.T) { // P13.2
	s, _ := Read(whole)
	if n := Events(s.Test); n != 2*3+1+2+2 {
		t.Errorf("Events: %d", n)
	}
	here, all := api.Instr{Op: api.Tlbi, D: 31, Kind: 4}, api.Instr{Op: api.Tlbi, D: 31}
	ldr, str := api.Instr{Op: api.Ldr}, api.Instr{Op: api.Stlr}
	test := api.Test{Cores: []api.Core{{Code: []api.Instr{ldr, all, str, here, {Op: api.Dsb, Kind: 15}}, Handler: []api.Instr{all, ldr, {Op: api.Eret}}}, {Handler: []api.Instr{ldr}}, {}}}
	if n := Events(test); n != 3+4+3+2+2*(4+3) {
		t.Errorf("Events: %d", n)
	}
}
