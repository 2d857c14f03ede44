package trace

import (
	"reflect"
	"slices"
	"testing"

	"granule/api"
	"granule/asm"
)

const block = 0x401

func code(t *testing.T, texts ...string) []api.Instr {
	t.Helper()
	var list []api.Instr
	for _, s := range texts {
		x, e := asm.Parse(s)
		if e != api.OK {
			t.Fatalf("%s: %d", s, e)
		}
		list = append(list, x)
	}
	return list
}

func read(v uint64) Got { return Got{Bound: true, First: block, Read: true, Value: v} }

var bound = Got{Bound: true, First: block}

func TestExample(t *testing.T) { // the chapter's example; P14.1, P14.2
	c := api.Core{Code: code(t, "LDR X0,[X1]", "CBZ X0,.+2", "STR X2,[X3]")}
	w := Eval(c, nil, nil, 99)
	if len(w.Steps) != 1 || !w.Open || w.End || !w.Steps[0].Placed || w.Steps[0].Bound {
		t.Errorf("without answers: %+v", w)
	}
	w = Eval(c, []Got{read(0)}, nil, 99)
	if len(w.Steps) != 2 || w.Open || !w.End || !w.Steps[1].Settled || !w.Steps[1].Taken {
		t.Errorf("with 0: %+v", w)
	}
	w = Eval(c, []Got{read(1)}, nil, 99)
	if len(w.Steps) != 3 || !w.Open || w.End || w.Steps[1].Taken || w.Steps[2].Bound || !w.Steps[2].Ready {
		t.Errorf("with 1: %+v", w)
	}
}

func TestLimit(t *testing.T) { // P14.1
	c := api.Core{Regs: []uint64{7}, Code: code(t, "NOP", "NOP", "NOP")}
	for limit, want := range map[int]int{-5: 0, 0: 0, 1: 1, 2: 2, 3: 3, 4: 3, 1 << 40: 3} {
		w := Eval(c, nil, nil, limit)
		if len(w.Steps) != want || w.End != (want == 3) || w.Open || len(w.Regs) != 31 || len(w.Known) != 31 || w.Regs[0] != 7 || !w.Known[30] {
			t.Errorf("limit %d: %+v", limit, w)
		}
	}
	if w := Eval(api.Core{}, nil, nil, 0); !w.End || w.Open {
		t.Errorf("no code: %+v", w)
	}
}

func TestHang(t *testing.T) { // P14.1
	c := api.Core{Code: code(t, "LDR X0,[X9]", "LDR X1,[X0]", "ADD X2,X1,X0", "MOV X0,#5", "STR X2,[X2]", "SUBS X3,X2,X1", "B.EQ .+1", "STR X3,[X0]")}
	w := Eval(c, []Got{read(16), read(8), bound, bound}, nil, 99)
	var hang [][2][]int
	for _, s := range w.Steps {
		hang = append(hang, [2][]int{s.Address, s.Data})
	}
	want := [][2][]int{{}, {{0}, nil}, {nil, {0, 1}}, {}, {{0, 1}, {0, 1}}, {nil, {0, 1}}, {nil, {0, 1}}, {nil, {0, 1}}}
	for i := range want {
		if !slices.Equal(hang[i][0], want[i][0]) || !slices.Equal(hang[i][1], want[i][1]) {
			t.Errorf("step %d: %v, not %v", i, hang[i], want[i])
		}
	}
	if w.Steps[4].VA != 24 || w.Steps[4].Addr != 24 || w.Steps[4].Value != 24 || w.Steps[7].Value != 16 || w.Steps[7].VA != 5 || w.Steps[7].Fault.Kind != api.FaultAlign {
		t.Errorf("values: %+v", w.Steps)
	}
	w = Eval(c, []Got{bound, bound, bound}, nil, 99)
	if len(w.Steps) != 2 || w.Steps[1].Placed || w.Steps[1].Bound || !w.Open || w.Known[0] || w.Regs[0] != 0 {
		t.Errorf("an address that isn't known: %+v", w)
	}
}

func TestUnknown(t *testing.T) { // P14.2
	c := api.Core{Code: code(t, "LDR X0,[X9]", "STR X0,[X9]", "TLBI VAE1IS,X0", "TLBI VMALLE1", "CMP X0,X1", "B.NE .+2", "NOP", "STLR XZR,[X9]")}
	w := Eval(c, []Got{bound, bound, bound}, nil, 99)
	s := w.Steps
	if len(s) != 6 || !w.Open || s[0].Ready || s[1].Ready || !s[1].Bound || s[2].Ready || s[2].Flush != (api.Flush{}) || !s[3].Ready || s[5].Settled || s[5].Taken {
		t.Fatalf("not read: %+v", w)
	}
	w = Eval(c, []Got{bound, bound, bound}, []bool{true}, 99)
	if len(w.Steps) != 7 || w.Open || !w.End || !w.Steps[5].Taken || w.Steps[5].Wrong || !w.Steps[6].Ready {
		t.Errorf("guessed: %+v", w)
	}
	w = Eval(c, []Got{read(5), bound, bound}, []bool{false}, 99)
	if len(w.Steps) != 6 || !w.Open || !w.Steps[5].Settled || !w.Steps[5].Taken || !w.Steps[5].Wrong || w.Steps[2].Value != 5 || w.Steps[2].Flush != (api.Flush{Kind: 1, Page: 0x5000}) || w.Steps[1].Value != 5 {
		t.Errorf("guessed wrong: %+v", w)
	}
	w = Eval(c, []Got{read(0), bound, bound}, []bool{false}, 99)
	if len(w.Steps) != 8 || w.Steps[5].Wrong || w.Steps[5].Taken || !w.End {
		t.Errorf("guessed right: %+v", w)
	}
}

func TestBind(t *testing.T) { // P14.2
	c := api.Core{Regs: []uint64{0x1010}, Code: code(t, "LDR X1,[X0]")}
	for _, x := range []struct {
		got    Got
		fault  api.Fault
		walks  int
		last   uint64
		addr   uint64
		own    bool
		faults int
	}{
		{Got{Bound: true, First: 0x2003, Last: 0x5403}, api.Fault{}, 2, 0x5403, 0x5010, false, 0},
		{Got{Bound: true, First: 0x401, Last: 0x5403}, api.Fault{}, 1, 0, 0x1010, false, 0},
		{Got{Bound: true, First: 0x2003, Last: 0x5003}, api.Fault{Kind: api.FaultFlag, Level: 2}, 2, 0x5003, 0, true, 1},
		{Got{Bound: true, First: 0x2002, Last: 0x5003}, api.Fault{Kind: api.FaultTrans, Level: 1}, 1, 0, 0, true, 1},
	} {
		w := Eval(c, []Got{x.got}, nil, 99)
		s := w.Steps[0]
		if !s.Bound || s.Fault != x.fault || s.Walks != x.walks || s.Last != x.last || s.First != x.got.First || s.Addr != x.addr || s.Own != x.own || len(w.Faults) != x.faults || !w.End {
			t.Errorf("%+v: %+v", x.got, w)
		}
	}
	c.Regs[0] = 1 << 30
	s := Eval(c, nil, nil, 99).Steps[0]
	if !s.Bound || s.Walks != 0 || s.Fault.Kind != api.FaultVA || s.Own {
		t.Errorf("beyond: %+v", s)
	}
	w := Eval(api.Core{Code: code(t, "STR X0,[X1]"), Regs: []uint64{3}}, []Got{{Bound: true, First: 0x481}}, nil, 99)
	if s := w.Steps[0]; s.Fault != (api.Fault{Kind: api.FaultPerm, Level: 1, Write: true}) || s.Own || !s.Ready || s.Value != 3 {
		t.Errorf("read only: %+v", s)
	}
}

func TestHandler(t *testing.T) { // P14.2
	c := api.Core{
		Regs:    []uint64{0, 0x8000},
		Code:    code(t, "NOP", "LDR X0,[X1]", "MOV X5,#9", "LDR X6,[XZR,#8]"),
		Handler: code(t, "MRS X2,ESR_EL1", "MRS X3,FAR_EL1", "MRS X4,ELR_EL1", "CBZ X5,.+2", "LDR X0,[X1]", "ERET", "NOP"),
	}
	answers := []Answer{{}, {First: block, Value: 4}}
	w := Run(c, answers)
	if !w.End || len(w.Steps) != 9 || w.Regs[2] != 0x96000005 || w.Regs[3] != 0x8000 || w.Regs[4] != 2 || w.Regs[5] != 9 || w.Regs[6] != 4 || w.Regs[0] != 0 {
		t.Errorf("handled: %+v", w)
	}
	if s := w.Steps; !s[2].Handler || s[2].PC != 0 || s[5].PC != 3 || !s[5].Taken || s[6].PC != 5 || s[7].Handler || s[7].PC != 2 {
		t.Errorf("steps: %+v", w.Steps)
	}
	if len(w.Faults) != 1 || w.Faults[0] != (api.Fault{Kind: api.FaultTrans, Level: 1}) {
		t.Errorf("Faults: %v", w.Faults)
	}
	c.Regs = []uint64{0, 0x8000, 0, 0, 0, 1}
	w = Run(c, []Answer{{}, {}})
	if !w.End || len(w.Steps) != 7 || len(w.Faults) != 2 || w.Regs[5] != 1 {
		t.Errorf("a fault in the handler: %+v", w)
	}
	c.Handler = nil
	if w = Run(c, answers); !w.End || len(w.Steps) != 2 || len(w.Faults) != 1 {
		t.Errorf("no handler: %+v", w)
	}
}

func TestEretTwice(t *testing.T) { // P14.2: each fault of the code has its own way back
	c := api.Core{Code: code(t, "LDR X0,[X1]", "LDR X0,[X1]", "MOV X2,#1"), Handler: code(t, "ADD X3,X3,#1", "ERET")}
	w := Run(c, []Answer{{}, {}})
	if !w.End || w.Regs[3] != 2 || w.Regs[2] != 1 || len(w.Steps) != 2+4+1 {
		t.Errorf("%+v", w)
	}
}

func TestSteps(t *testing.T) { // P14.3
	c := api.Core{Code: code(t, "LDR X0,[X1]", "NOP", "STLR X0,[X1]", "TLBI VMALLE1", "STR X0,[X1,#8]")}
	steps := Run(c, []Answer{{First: block, Value: 1}, {First: block}, {}}).Steps
	if !slices.Equal(Accesses(steps), []int{0, 2, 4}) || steps[2].Value != 1 {
		t.Errorf("Accesses: %v", Accesses(steps))
	}
	for i, want := range []string{"RA", "", "WA", "A", "FA"} {
		s, got := steps[i], ""
		for k, is := range []bool{s.Reads(), s.Writes(), s.Faults(), s.Acts()} {
			if is {
				got += string("RWFA"[k])
			}
		}
		if got != want {
			t.Errorf("step %d: %s", i, got)
		}
	}
}

func TestMore(t *testing.T) { // P14.4, P14.5
	c := api.Core{Code: code(t, "LDR X0,[X9]", "STR X0,[X9]", "CBZ X0,.+2", "LDR X1,[X0,#8]", "STR X1,[X9]"), Handler: code(t, "ERET")}
	full := []Got{read(8), bound, read(3), bound}
	last := Window{}
	for n := range len(full) + 1 {
		w := Eval(c, full[:n], nil, 99)
		for i, s := range last.Steps {
			now := w.Steps[i]
			if s.Bound && !reflect.DeepEqual(s, now) || s.Placed && now.VA != s.VA {
				t.Errorf("with %d: step %d was %+v, is %+v", n, i, s, now)
			}
		}
		last = w
	}
	if !last.End {
		t.Errorf("no end: %+v", last)
	}
}

func TestHandedIn(t *testing.T) { // P1, P2
	got, guesses, list := []Got{read(8), bound}, []bool{true}, []uint64{1, 2}
	c := api.Core{Regs: list, Code: code(t, "LDR X0,[X9]", "ADD X1,X0,X0", "STR X1,[X0]")}
	w := Eval(c, got, guesses, 99)
	w.Regs[0], w.Steps[1].Data[0], w.Steps[2].Data[0] = 99, 98, 97
	if list[0] != 1 || got[0] != read(8) || w.Steps[2].Address[0] != 0 {
		t.Error("Eval shares")
	}
	odd := api.Core{Code: []api.Instr{{Op: api.B}, {Op: api.Eret}}, Handler: []api.Instr{{Op: api.B, Imm: -9}}}
	if n := len(Eval(odd, nil, nil, 1<<60).Steps); n > MaxSteps {
		t.Errorf("code that goes round: %d", n)
	}
	Eval(api.Core{Code: []api.Instr{{Op: api.B, Imm: -9}}}, nil, nil, 9)
	Eval(api.Core{Code: []api.Instr{{Op: api.Cbz, D: 77, Imm: 1 << 62}, {Op: api.Ldr, D: 99, N: -7}}}, nil, nil, 9)
}
