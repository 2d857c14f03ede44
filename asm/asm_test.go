package asm

import (
	"math"
	"slices"
	"strings"
	"testing"

	"granule/api"
)

func TestRegs(t *testing.T) { // P4.1
	for n, s := range map[int]string{0: "X0", 30: "X30", 31: "XZR", -1: "", 32: "", math.MinInt: ""} {
		if Reg(n) != s {
			t.Errorf("Reg(%d): %q", n, Reg(n))
		}
	}
	for n := range 32 {
		if m, ok := NumberOf(Reg(n)); m != n || !ok {
			t.Errorf("NumberOf(%s): %d", Reg(n), m)
		}
	}
	for _, s := range []string{"", "X", "X31", "X00", "X01", "x0", "W0", "XZR ", "X-1", "X1\x00"} {
		if n, ok := NumberOf(s); n != 0 || ok {
			t.Errorf("NumberOf(%q): %d", s, n)
		}
	}
}

// texts: instructions and what Print makes of them.
func texts() map[string]api.Instr {
	return map[string]api.Instr{
		"NOP": {Op: api.Nop}, "ISB": {Op: api.Isb}, "ERET": {Op: api.Eret},
		"LDR X1,[X2,#8]": {Op: api.Ldr, D: 1, N: 2, Imm: 8}, "LDR XZR,[XZR]": {Op: api.Ldr, D: 31, N: 31},
		"STR X1,[X2]": {Op: api.Str, D: 1, N: 2}, "STR X30,[X0,#32760]": {Op: api.Str, D: 30, Imm: 32760},
		"LDAR X1,[X2]": {Op: api.Ldar, D: 1, N: 2}, "STLR X1,[X2]": {Op: api.Stlr, D: 1, N: 2},
		"MOV X1,#16": {Op: api.Movz, D: 1, Imm: 16}, "MOVZ X1,#65535,LSL #48": {Op: api.Movz, D: 1, Imm: 65535, Kind: 3}, "MOVZ X0,#0,LSL #16": {Op: api.Movz, Kind: 1},
		"ADD X1,X2,#0": {Op: api.AddI, D: 1, N: 2}, "ADD X1,X2,#4095": {Op: api.AddI, D: 1, N: 2, Imm: 4095},
		"ADD X1,X2,X3": {Op: api.Add, D: 1, N: 2, M: 3}, "SUB X1,X2,X3": {Op: api.Sub, D: 1, N: 2, M: 3}, "AND X1,X2,X3": {Op: api.And, D: 1, N: 2, M: 3},
		"ORR X1,X2,XZR": {Op: api.Orr, D: 1, N: 2, M: 31}, "EOR X1,X2,X3": {Op: api.Eor, D: 1, N: 2, M: 3}, "SUBS X1,X2,X3": {Op: api.Subs, D: 1, N: 2, M: 3}, "CMP X2,X3": {Op: api.Subs, D: 31, N: 2, M: 3},
		"B .+0": {Op: api.B}, "B .-2": {Op: api.B, Imm: -2}, "CBZ X1,.+2": {Op: api.Cbz, D: 1, Imm: 2}, "CBNZ XZR,.-1": {Op: api.Cbnz, D: 31, Imm: -1},
		"B.EQ .+3": {Op: api.Bcond, Imm: 3}, "B.NE .+3": {Op: api.Bcond, Kind: 1, Imm: 3},
		"DMB SY": {Op: api.Dmb, Kind: 15}, "DMB ST": {Op: api.Dmb, Kind: 14}, "DMB LD": {Op: api.Dmb, Kind: 13}, "DSB ISH": {Op: api.Dsb, Kind: 11}, "DSB ISHST": {Op: api.Dsb, Kind: 10}, "DSB ISHLD": {Op: api.Dsb, Kind: 9},
		"TLBI VMALLE1IS": {Op: api.Tlbi, D: 31}, "TLBI VMALLE1": {Op: api.Tlbi, D: 31, Kind: 4}, "TLBI VAE1IS,X3": {Op: api.Tlbi, D: 3, Kind: 1}, "TLBI VAAE1,XZR": {Op: api.Tlbi, D: 31, Kind: 6}, "TLBI ASIDE1IS,X1": {Op: api.Tlbi, D: 1, Kind: 3}, "TLBI ASIDE1,X1": {Op: api.Tlbi, D: 1, Kind: 7}, "TLBI VAE1,X0": {Op: api.Tlbi, Kind: 5}, "TLBI VAAE1IS,X0": {Op: api.Tlbi, Kind: 2},
		"MRS X2,ESR_EL1": {Op: api.Mrs, D: 2}, "MRS X2,FAR_EL1": {Op: api.Mrs, D: 2, Kind: 1}, "MRS XZR,ELR_EL1": {Op: api.Mrs, D: 31, Kind: 2},
	}
}

func TestPrint(t *testing.T) { // P4.2, P4.4
	for s, x := range texts() {
		if Print(x) != s {
			t.Errorf("Print(%v): %q, not %q", x, Print(x), s)
		}
		if y, e := Parse(s); y != x || e != api.OK {
			t.Errorf("Parse(%q): %v, %d", s, y, e)
		}
	}
	for _, x := range []api.Instr{{}, {Op: 24}, {Op: -5}, {Op: api.Ldr, Imm: 4}, {Op: api.Tlbi}, {Op: api.Dmb, Kind: 12}, {Op: api.Mrs, Kind: 3}} {
		if Print(x) != "" {
			t.Errorf("Print(%v): %q", x, Print(x))
		}
	}
}

func TestWords(t *testing.T) { // P4.3
	for s, want := range map[string][]string{
		"":                  nil,
		" \t ":              nil,
		"LDR X1,[X2,#8]":    {"LDR", "X1", ",", "[", "X2", ",", "#8", "]"},
		"\tMOV X0 ,#0x10 ":  {"MOV", "X0", ",", "#0x10"},
		",[]a":              {",", "[", "]", "a"},
		"a\rb\x00\xff c\nd": {"a\rb\x00\xff", "c\nd"},
	} {
		if got := Words(s); !slices.Equal(got, want) {
			t.Errorf("Words(%q): %q", s, got)
		}
	}
}

func TestParse(t *testing.T) { // P4.3
	for s, want := range map[string]api.Instr{
		" MOV X0 , #0x10 ":              {Op: api.Movz, Imm: 16},
		"MOVZ X1,#16":                   {Op: api.Movz, D: 1, Imm: 16},
		"MOVZ X1,#16,LSL #0":            {Op: api.Movz, D: 1, Imm: 16},
		"MOV X1,#16,LSL\t#0x0":          {Op: api.Movz, D: 1, Imm: 16},
		"MOV X1,#007,LSL #0x10":         {Op: api.Movz, D: 1, Imm: 7, Kind: 1},
		"LDR X1 , [ X2 , #0x0 ]":        {Op: api.Ldr, D: 1, N: 2},
		"LDAR X1,[X2,#0]":               {Op: api.Ldar, D: 1, N: 2},
		"STLR X1,[X2,#00]":              {Op: api.Stlr, D: 1, N: 2},
		"B .-0":                         {Op: api.B},
		"B .-0x1":                       {Op: api.B, Imm: -1},
		"CBZ X1,.+0x3FfFf":              {Op: api.Cbz, D: 1, Imm: 1<<18 - 1},
		"SUBS XZR,X2,X3":                {Op: api.Subs, D: 31, N: 2, M: 3},
		"ADD X1,X2,#0x0fff":             {Op: api.AddI, D: 1, N: 2, Imm: 4095},
		"TLBI VAE1IS , X3":              {Op: api.Tlbi, D: 3, Kind: 1},
		"STR X1,[X2,#0000000000000008]": {Op: api.Str, D: 1, N: 2, Imm: 8},
	} {
		if x, e := Parse(s); x != want || e != api.OK {
			t.Errorf("Parse(%q): %v, %d", s, x, e)
		}
	}
	for _, s := range []string{
		"", " ", "ldr X1", "LDR X1", "LDR X1,X2", "LDR X1,[X2", "LDR X1,[X2]]", "LDR X1,[X2],", "LDR X1 [X2]", "LDR X1,[X2,8]", "LDR X1,[X2,#4]", "LDR X1,[X2,#32768]", "LDR X1,[X2,# 8]", "LDR X1,[X2,#-8]", "LDR X1,[X2,#+8]", "LDR X1,[X2,#]", "LDR X31,[X2]",
		"LDAR X1,[X2,#8]", "NOP NOP", "nop", "MOV X1,X2", "MOV X1,#65536", "MOV X1,#1,LSL #8", "MOV X1,#1,LSL #64", "MOV X1,#1,LSL#16", "MOV X1,#1,LSL", "MOV X1,#1,LSL 16", "MOV X1,#18446744073709551617", "MOV X1,#1099511627777",
		"ADD X1,X2", "ADD X1,X2,#4096", "ADD X1,X2,3", "SUB X1,X2,#1", "CMP X1", "CMP X1,X2,X3", "CMP X1,#1", "B", "B 1", "B .1", "B .+", "B .-", "B .+-1", "B +1", "B.EQ", "B.LT .+1", "B.EQ X1,.+1", "CBZ .+1", "CBZ X1", "CBZ X1,.+262144",
		"DMB", "DMB OSH", "DMB #15", "DMB SY,X1", "TLBI", "TLBI VMALLE1IS,XZR", "TLBI VAE1IS", "TLBI VAE1IS,", "TLBI VAE1OS,X1", "TLBI X1,VAE1IS", "MRS X1", "MRS X1,ESR_EL2", "MRS ESR_EL1,X1", "ISB SY", "B.EQ .+1 x", "SUBS XZR,X2", "LDR\rX1,[X2]",
		strings.Repeat("LDR ", 1000), strings.Repeat("[", 8),
	} {
		if x, e := Parse(s); x != (api.Instr{}) || e != api.ErrText {
			t.Errorf("Parse(%q): %v, %d", s, x, e)
		}
	}
}
