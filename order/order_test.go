package order

import (
	"slices"
	"strings"
	"testing"

	"granule/api"
	"granule/asm"
	"granule/trace"
)

// steps: of code, whose accesses all go through one block, and whose loads read 0, up to the first access without an answer. X1 is 0x8000, X2 0x8008, X9 an address without a descriptor.
func steps(t *testing.T, text string, answers int) []trace.Step {
	t.Helper()
	c := api.Core{Regs: []uint64{0, 0x8000, 0x8008, 9: 0x40000000}}
	for _, s := range strings.Split(text, ";") {
		x, e := asm.Parse(s)
		if e != api.OK {
			t.Fatalf("%s: %d", s, e)
		}
		c.Code = append(c.Code, x)
	}
	c.Handler = []api.Instr{{Op: api.Eret}}
	list := make([]trace.Answer, answers)
	for i := range list {
		list[i].First = 0x401
	}
	return trace.Run(c, list).Steps
}

func TestBefore(t *testing.T) { // P15.1: of the first and the last step
	for text, want := range map[string]bool{
		"STR X0,[X1];LDR X0,[X2]":                           false,
		"STR X0,[X1];DMB SY;LDR X0,[X2]":                    true,
		"STR X0,[X1];DMB ISH;LDR X0,[X2]":                   true,
		"STR X0,[X1];DMB LD;LDR X0,[X2]":                    false,
		"STR X0,[X1];DMB ST;LDR X0,[X2]":                    false,
		"STR X0,[X1];DMB ISHST;STR X0,[X2]":                 true,
		"STR X0,[X1];DMB ST;STR X0,[X9]":                    false,
		"STR X0,[X1];DMB SY;STR X0,[X9]":                    true,
		"LDR X0,[X1];DMB ST;STR X5,[X2]":                    false,
		"LDR X0,[X1];DMB LD;STR X5,[X2]":                    true,
		"LDR X0,[X1];DMB ISHLD;LDR X5,[X2]":                 true,
		"LDR X0,[X1];DMB SY;TLBI VMALLE1IS":                 false,
		"LDR X0,[X1];DSB LD;TLBI VMALLE1IS":                 true,
		"TLBI VMALLE1;DMB SY;LDR X0,[X1]":                   false,
		"TLBI VMALLE1;DSB SY;LDR X0,[X1]":                   true,
		"TLBI VMALLE1;TLBI VMALLE1":                         false,
		"DSB SY;NOP;LDR X0,[X1]":                            false,
		"LDR X0,[X1];DSB SY;NOP":                            false,
		"LDR X0,[X1];STR X0,[X2]":                           true,
		"LDR X0,[X1];TLBI VAE1,X0":                          true,
		"LDR X0,[X1];TLBI VMALLE1":                          false,
		"LDR X0,[X1];LDR X3,[X0]":                           true,
		"LDR X0,[X1];STR X3,[X0]":                           true,
		"LDR X0,[X1];LDR X3,[X0];LDR X5,[X2]":               true,
		"LDR X0,[X1];STR X0,[X1];LDR X5,[X2]":               false,
		"LDR X0,[X1];STR X3,[X0];TLBI VMALLE1":              true,
		"LDR X0,[X1];EOR X0,X0,X0;ADD X3,X0,X2;LDR X5,[X3]": true,
		"LDR X0,[X1];CBZ X0,.+1;STR X3,[X2]":                true,
		"LDR X0,[X1];CBZ X0,.+1;TLBI VMALLE1":               true,
		"LDR X0,[X1];CBZ X0,.+1;LDR X3,[X9]":                true,
		"LDR X0,[X1];CBZ X0,.+1;LDR X3,[X2]":                false,
		"LDR X0,[X1];CBZ X0,.+1;ISB;LDR X3,[X2]":            true,
		"LDR X0,[X1];ISB;CBZ X0,.+1;LDR X3,[X2]":            false,
		"LDR X0,[X1];CBZ X5,.+1;ISB;STR X3,[X2]":            false,
		"LDR X0,[X1];CMP X0,X5;B.EQ .+1;STR X3,[X2]":        true,
		"LDR X0,[X1];LDR X3,[X1]":                           true,
		"LDR X0,[X1];STR X5,[X1]":                           true,
		"STR X5,[X1];STR X5,[X1]":                           true,
		"STR X5,[X1];LDR X5,[X1]":                           false,
		"LDR X0,[X1];LDR X3,[X9]":                           false,
		"LDR X0,[X9];LDR X3,[X2]":                           true,
		"STR X0,[X9];TLBI VMALLE1":                          true,
		"LDAR X0,[X1];LDR X3,[X2]":                          true,
		"LDAR X0,[X1];TLBI VMALLE1":                         true,
		"LDR X0,[X2];LDAR X3,[X1]":                          false,
		"LDR X0,[X2];STLR X3,[X1]":                          true,
		"LDR X0,[X2];STLR X3,[X9]":                          false,
		"STLR X0,[X2];LDAR X3,[X1]":                         true,
		"STLR X0,[X2];LDR X3,[X1]":                          false,
		"STLR X0,[X2];LDAR X3,[X9]":                         false,
		"LDR X0,[X1];NOP":                                   false,
		"NOP;LDR X0,[X1]":                                   false,
	} {
		s := steps(t, text, 9)
		last := strings.Count(text, ";")
		if s[0].Faults() {
			last++ // the handler's ERET
		}
		if got := Before(s, 0, last); got != want {
			t.Errorf("%s: %t", text, got)
		}
		if Before(s, last, 0) || Before(s, 0, 0) {
			t.Errorf("%s: backwards", text)
		}
	}
}

func TestUnbound(t *testing.T) { // P15.1
	s := steps(t, "LDR X0,[X1];LDR X3,[X1]", 1)
	if Before(s, 0, 1) || s[1].Bound {
		t.Error("an access that isn't bound goes to no cell")
	}
	s = steps(t, "LDR X0,[X1];CBZ X0,.+1;STR X3,[X1]", 1)
	if !Before(s, 0, 2) {
		t.Error("an access that isn't bound isn't held by a branch")
	}
}

func TestDropped(t *testing.T) { // P15.2
	s := steps(t, "TLBI VMALLE1IS;DSB SY;LDR X0,[X1];NOP;TLBI VMALLE1;STR X0,[X1];LDR X0,[X9]", 9)
	for i := -1; i <= len(s); i++ {
		for j := -1; j <= len(s); j++ {
			act := j == 2 || j == 4 || j == 5 || j == 6
			if Dropped(s, i, j) != (i == 0 && act) {
				t.Errorf("Dropped %d %d", i, j)
			}
			walks := i == 2 || i == 5
			if Walked(s, i, j) != (walks && (i == j || i < j && act)) {
				t.Errorf("Walked %d %d", i, j)
			}
		}
	}
	if !slices.Equal(Acts(s), []int{0, 2, 4, 5, 6}) {
		t.Errorf("Acts: %v", Acts(s))
	}
}

func TestPairs(t *testing.T) { // P15.2, P15.3
	s := steps(t, "STR X0,[X1];LDR X0,[X2];DSB SY;TLBI VMALLE1;STR X0,[X2];LDR X3,[X1]", 9)
	if got := Pairs(s); !slices.Equal(got, [][2]int{{0, 3}, {1, 3}, {0, 4}, {1, 4}, {0, 5}, {1, 5}}) {
		t.Errorf("Pairs: %v", got)
	}
	for j := -2; j < 9; j++ {
		want := -1
		if j == 5 {
			want = 0
		}
		if Latest(s, j) != want {
			t.Errorf("Latest %d: %d", j, Latest(s, j))
		}
	}
	s = steps(t, "STR X0,[X1];STLR X0,[X1];STR X0,[X2];LDR X0,[X1];LDR X0,[X1]", 4)
	if Latest(s, 3) != 1 || Latest(s, 4) != -1 || Latest(s, 1) != -1 {
		t.Error("Latest")
	}
}

func TestMoreBarriers(t *testing.T) { // P15.4
	codes := []string{"LDR X0,[X1]", "STR X0,[X2]", "LDAR X3,[X1]", "STLR X3,[X2]", "TLBI VMALLE1IS", "CBZ X0,.+1", "LDR X5,[X9]"}
	for _, a := range codes {
		for _, b := range codes {
			for _, c := range codes {
				plain := steps(t, a+";NOP;"+b+";NOP;"+c, 9)
				for _, fence := range []string{"DSB SY", "DMB SY", "DMB ST", "DMB LD", "ISB"} {
					more := steps(t, a+";"+fence+";"+b+";NOP;"+c, 9)
					for _, p := range Pairs(plain) {
						if !slices.Contains(Pairs(more), p) {
							t.Errorf("%s %s %s: %s takes %v away", a, b, c, fence, p)
						}
					}
				}
			}
		}
	}
}

func TestAnything(t *testing.T) { // P1
	for i := -2; i < 3; i++ {
		for j := -2; j < 3; j++ {
			Before(nil, i, j)
			Before(make([]trace.Step, 2), i, j)
			Dropped(nil, i, j)
			Walked(nil, i, j)
		}
	}
}
