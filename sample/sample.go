// Package sample makes small tests' texts by numbers, for the tests of other packages: alike numbers make alike texts.
package sample

import (
	"strings"

	"granule/field"
)

// dice are numbers that follow from a first one.
type dice struct {
	seed uint64
}

// below: the next number, below a bound.
func (d *dice) below(n int) int {
	d.seed = d.seed*6364136223846793005 + 1442695040888963407
	return int(d.seed >> 33 % uint64(n))
}

// of: one of some texts.
func (d *dice) of(list ...string) string { return list[d.below(len(list))] }

// begin is what all tests begin with: a table whose first entry leads to another one, and whose second one is a block over all memory. The page 0x5000 is at 0x9000, its entry at 0x2028.
const begin = `table 0x1000
table 0x2000
table 0x3000
cell 0x1000 = to 0x2000
cell 0x1008 = block 0
cell 0x2030 = page 0x9000
cell 0x3028 = page 0xa000
cell 0x9000 = 3
`

// regs are what each core begins with: X1 to X4 the addresses of a page, of its entry, of what the page leads to, of another cell; X5 another descriptor; X6 the page for TLBI; X8 a number; X15 a block for the first entry of the first table, X16 the address of that, X17 another table for it, X18 the address of the page's entry there.
const regs = `reg X1 = 0x5000
reg X2 = 0x202028
reg X3 = 0x209000
reg X4 = 0x20a000
reg X5 = page 0xa000
reg X6 = 5
reg X8 = 1
reg X15 = block 0
reg X16 = 0x201000
reg X17 = to 0x3000
reg X18 = 0x203028
`

// code: an instruction of a core of which so many are left.
func code(d *dice, left int) string {
	row := d.of("STR XZR,[X2]", "STR X5,[X2]", "LDR X7,[X1]", "LDR X7,[X1]", "STR X8,[X1]", "LDR X9,[X3]", "STR X8,[X3]", "LDR X10,[X4]", "STR X8,[X4]",
		"DSB SY", "DSB SY", "DMB SY", "DMB LD", "DMB ST", "ISB", "TLBI VMALLE1IS", "TLBI VAE1IS,X6", "TLBI VAAE1,X6", "LDAR X7,[X3]", "STLR X8,[X4]",
		"EOR X11,X7,X7", "ADD X1,X1,X11", "STR X7,[X4]", "LDR X12,[X6]", "CBZ X7,.+", "CBNZ X9,.+", "CMP X7,X9", "B.EQ .+", "TLBI ASIDE1IS,X7",
		"STR XZR,[X16]", "STR X15,[X16]", "STR X17,[X16]", "STR XZR,[X18]")
	if strings.HasSuffix(row, "+") {
		row += field.Int(1 + d.below(left))
	}
	return row + "\n"
}

// Text: of so many cores with so many instructions each.
func Text(seed uint64, cores, length int) string {
	d := &dice{seed: seed}
	text := "test sample\n" + begin + "cell 0x2028 = " + d.of("page 0x9000", "page 0x9000", "page 0x9000 own", "page 0x9000 ro", "page 0x9000 unused", "0") + "\n"
	for i := range cores {
		text += "core " + field.Int(i) + d.of("", " space 7") + " table 0x1000\n" + regs
		for n := range length {
			text += code(d, length-n)
		}
		if d.below(2) == 0 {
			text += "handler\n" + d.of("MRS X13,ESR_EL1\n", "") + d.of("ERET\n", "LDR X14,[X3]\nERET\n", "STR X8,[X4]\n")
		}
	}
	return text + "exists true\n"
}

// Change is a test of a core that changes a page's descriptor, more or less as it should, and of so many that load by it.
func Change(seed uint64, readers int) string {
	d := &dice{seed: seed}
	text := "test change\n" + begin + "cell 0x2028 = " + d.of("page 0x9000", "page 0x9000", "page 0x9000 own", "0") + "\ncore 0 table 0x1000\n" + regs
	for _, row := range []string{"STR XZR,[X2]", "DSB SY", d.of("TLBI VMALLE1IS", "TLBI VMALLE1IS", "TLBI VAE1IS,X6", "TLBI VAAE1IS,X6", "TLBI VMALLE1"), "DSB SY", d.of("STR X5,[X2]", "STR X5,[X2]", "LDR X7,[X1]"), d.of("DSB SY", "DMB SY", "NOP"), "STR X8,[X4]"} {
		switch d.below(8) {
		case 0:
		case 1:
			text += d.of("ISB", "DMB ST", "LDR X9,[X1]", "STR X5,[X2]", "TLBI VMALLE1IS") + "\n"
		default:
			text += row + "\n"
		}
	}
	for i := range readers {
		text += "core " + field.Int(i+1) + " table 0x1000\n" + regs
		for range 1 + d.below(4) {
			text += d.of("LDR X7,[X1]", "LDR X9,[X1]", "LDR X10,[X4]", "DSB SY", "STR X8,[X1]", "CBZ X10,.+1", "ISB", "DMB LD", "TLBI VMALLE1", "STR X8,[X3]") + "\n"
		}
		text += "NOP\n" + d.of("", "handler\nERET\n", "handler\nLDR X14,[X3]\n")
	}
	return text + "exists true\n"
}
