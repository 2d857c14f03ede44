package litmus

import (
	"reflect"
	"strings"
	"testing"

	"granule/api"
)

const whole = `  // a test
test a_1
table 0x1000
 table 8192
cell 0x1000 = to 0x2000
cell 0x2000 = page 0x5000
cell 8 = 7 // seven
core 0 table 0x1000
reg X1 = 0x10
reg X1 = 0x18
LDR X0,[X1]
NOP
handler
ERET
core 1 space 65535 table 0x2000
reg X30 = block 0x200000 unused ro user own
handler
 ISB
forall 0:X0=1 \/ true
`

func TestParse(t *testing.T) { // P12.1, P12.2
	s, p := Parse(whole)
	if p != (api.Problem{}) {
		t.Fatal(p)
	}
	regs := func(n int, v uint64) []uint64 {
		list := make([]uint64, 31)
		list[n] = v
		return list
	}
	want := api.Test{
		Name:  "a_1",
		Cells: []api.Cell{{Addr: 0x1000, Value: 0x2003}, {Addr: 0x2000, Value: 0x5403}, {Addr: 8, Value: 7}},
		Cores: []api.Core{
			{Regs: regs(1, 0x18), Table: 0x1000, Code: []api.Instr{{Op: api.Ldr, N: 1}, {Op: api.Nop}}, Handler: []api.Instr{{Op: api.Eret}}},
			{Regs: regs(30, 0x2008c1), Space: 65535, Table: 0x2000, Handler: []api.Instr{{Op: api.Isb}}},
		},
		Forall: true,
		Cond:   api.Cond{Kind: api.CondOr, Args: []api.Cond{{Kind: api.CondReg, Value: 1}, {Kind: api.CondTrue}}},
	}
	if !reflect.DeepEqual(s.Test, want) || !reflect.DeepEqual(s.Tables, []uint64{0x1000, 0x2000}) {
		t.Errorf("Parse: %+v", s)
	}
	at := func(row string) int { return strings.Index(whole, row) }
	places := Places{
		Tables: []int{at("table 0x1000"), at("table 8192")},
		Cells:  []int{at("cell 0x1000"), at("cell 0x2000"), at("cell 8")},
		Cores:  []int{at("core 0"), at("core 1")},
		Instrs: [][]int{{at("LDR"), at("NOP"), at("ERET")}, {at("ISB")}},
		Cond:   at("forall"),
	}
	if !reflect.DeepEqual(s.Places, places) {
		t.Errorf("Places: %+v", s.Places)
	}
	if s, p := Parse("test b\nexists~true"); p.Code != api.OK || s.Test.Forall || s.Test.Cond.Kind != api.CondNot {
		t.Errorf("the least test: %v", p)
	}
}

func TestValues(t *testing.T) { // P12.1
	for v, want := range map[string]uint64{
		"0x12345": 0x12345, "to 0x3000": 0x3003, "to 0": 3, "block 0x200000": 0x200401, "page 0x3000": 0x3403, "page 0x3000 unused": 0x3003,
		"page 0x3000 ro": 0x3483, "page 0x3000 user": 0x3443, "page 0x3000 own": 0x3c03, "page 0x3000 ro own": 0x3c83, "block 0 unused user": 0x41,
	} {
		s, p := Parse("test a\ncell 8 = " + v + "\ncore 0 table 0\nreg X0 = " + v + "\nexists true")
		if p.Code != api.OK || s.Test.Cells[0].Value != want || s.Test.Cores[0].Regs[0] != want {
			t.Errorf("%s: %v, %v", v, s.Test, p)
		}
	}
}

// faults: texts with a mark ^ at the place of their fault.
func faults() map[string]api.Errno {
	return map[string]api.Errno{
		"^":                                                api.ErrSyntax,
		"// x\n^":                                          api.ErrSyntax,
		"test a\n^":                                        api.ErrSyntax,
		"^table 0x1000\ntest a":                            api.ErrSyntax,
		"\n ^NOP\ntest a":                                  api.ErrSyntax,
		"test a\n^test b":                                  api.ErrSyntax,
		"test a\n^test #":                                  api.ErrSyntax,
		"test^":                                            api.ErrSyntax,
		"test ^7":                                          api.ErrSyntax,
		"test a ^b":                                        api.ErrSyntax,
		"test a\nexists true\n ^exists true":               api.ErrSyntax,
		"test a\nexists true\n^#":                          api.ErrSyntax,
		"test a\ntable ^#":                                 api.ErrByte,
		"test a\ntable ^x":                                 api.ErrSyntax,
		"test a\ntable 1 ^2":                               api.ErrSyntax,
		"test a\ntable ^0x":                                api.ErrDigit,
		"test a\ntable ^18446744073709551616":              api.ErrBig,
		"test a\ntable x ^0x1g":                            api.ErrDigit,
		"test ^aaaaaaaaaaaaaaaaaaaaaaaaa":                  api.ErrName,
		"test a\ncell 8 ^7":                                api.ErrSyntax,
		"test a\ncell 8 =^":                                api.ErrSyntax,
		"test a\ncell 8 = ^from 7":                         api.ErrSyntax,
		"test a\ncell 8 = to ^x":                           api.ErrSyntax,
		"test a\ncell 8 = to 8^":                           api.ErrDesc,
		"test a\ncell 8 = to 0x1000 ^ro":                   api.ErrSyntax,
		"test a\ncell 8 = block 0x1000 ro ^x":              api.ErrDesc,
		"test a\ncell 8 = page 0x100000000^":               api.ErrDesc,
		"test a\ncell 8 = page 0 ro ^unused":               api.ErrSyntax,
		"test a\ncell 8 = page 0 ro ^ro":                   api.ErrSyntax,
		"test a\ncore 0 table 0\n^table 1":                 api.ErrSyntax,
		"test a\ncore 0 table 0\n^cell x":                  api.ErrSyntax,
		"test a\ncore 0 table 0\ncell ^#":                  api.ErrByte,
		"test a\n^core 1 table 0":                          api.ErrSyntax,
		"test a\n^core 1 x":                                api.ErrSyntax,
		"test a\ncore 0 table 0\n^core 0":                  api.ErrSyntax,
		"test a\ncore ^65536 table 0":                      api.ErrRange,
		"test a\n^core 65535 table 0":                      api.ErrSyntax,
		"test a\ncore ^x table 0":                          api.ErrSyntax,
		"test a\ncore 0 space ^65536 table 0":              api.ErrRange,
		"test a\ncore 0 space ^x table 0":                  api.ErrSyntax,
		"test a\ncore 0^":                                  api.ErrSyntax,
		"test a\ncore 0 table^":                            api.ErrSyntax,
		"test a\ncore 0 table 0 ^space":                    api.ErrSyntax,
		"test a\nreg ^X0 = 1":                              api.ErrSyntax,
		"test a\ncore 0 table 0\nreg ^XZR = 1":             api.ErrSyntax,
		"test a\ncore 0 table 0\nreg ^X31 = 1":             api.ErrSyntax,
		"test a\ncore 0 table 0\nreg ^1 = 1":               api.ErrSyntax,
		"test a\ncore 0 table 0\nreg X1 ^1":                api.ErrSyntax,
		"test a\ncore 0 table 0\nreg X1 = 1 ^2":            api.ErrSyntax,
		"test a\ncore 0 table 0\nNOP\nreg ^X1=1":           api.ErrSyntax,
		"test a\ncore 0 table 0\nhandler\nreg ^X1=1":       api.ErrSyntax,
		"test a\n^handler":                                 api.ErrSyntax,
		"test a\ncore 0 table 0\nhandler ^x":               api.ErrSyntax,
		"test a\ncore 0 table 0\nhandler\nNOP\n^handler x": api.ErrSyntax,
		"test a\n^LDR X0":                                  api.ErrSyntax,
		"test a\ncore 0 table 0\n ^LDR X0":                 api.ErrText,
		"test a\ncore 0 table 0\n^tests a":                 api.ErrText,
		"test a\ncore 0 table 0\n^[0x8]":                   api.ErrText,
		"test a\nexists^":                                  api.ErrSyntax,
		"test a\nexists ^9:X1=1":                           api.ErrRange,
		"test a\nforall true ^true":                        api.ErrSyntax,
		"test a\n^#\nexists":                               api.ErrSyntax,
	}
}

func TestFaults(t *testing.T) { // P12.2
	for s, e := range faults() {
		text := strings.Replace(s, "^", "", 1)
		want := api.Problem{Code: e, At: strings.Index(s, "^")}
		if got, p := Parse(text); p != want || !reflect.DeepEqual(got, Source{}) {
			t.Errorf("%q: %v, not %v", s, p, want)
		}
	}
	if _, p := Parse("test a\nexists true\x00"); p != (api.Problem{Code: api.ErrByte, At: 18}) {
		t.Errorf("a byte that may not be: %v", p)
	}
	if _, p := Parse(strings.Repeat(" ", 16385)); p != (api.Problem{Code: api.ErrLong}) {
		t.Errorf("a long text: %v", p)
	}
}
