package isa

import (
	"math"
	"testing"

	"granule/api"
)

// right: instructions of each operation, with the edges of their parts.
func right() []api.Instr {
	list := []api.Instr{{Op: api.Nop}, {Op: api.Isb}, {Op: api.Eret}}
	for _, d := range []int{0, 1, 30, 31} {
		for op := api.Add; op <= api.Subs; op++ {
			list = append(list, api.Instr{Op: op, D: d, N: 31 - d, M: 7}, api.Instr{Op: op, D: d, N: 2, M: 31})
		}
		for _, imm := range []int{0, 8, 4088, 32760} {
			list = append(list, api.Instr{Op: api.Ldr, D: d, N: 3, Imm: imm}, api.Instr{Op: api.Str, D: 9, N: d, Imm: imm})
		}
		list = append(list, api.Instr{Op: api.Ldar, D: d, N: 31}, api.Instr{Op: api.Stlr, D: 4, N: d})
		for k := range 4 {
			list = append(list, api.Instr{Op: api.Movz, D: d, Imm: 65535 - k, Kind: k})
		}
		list = append(list, api.Instr{Op: api.AddI, D: d, N: 5, Imm: 4095}, api.Instr{Op: api.AddI, D: d, N: 5})
		for _, imm := range []int{-1 << 18, -1, 0, 1, 1<<18 - 1} {
			list = append(list, api.Instr{Op: api.Cbz, D: d, Imm: imm}, api.Instr{Op: api.Cbnz, D: d, Imm: imm})
		}
		for k := range 3 {
			list = append(list, api.Instr{Op: api.Mrs, D: d, Kind: k})
		}
		for k := range 8 {
			if k%4 != 0 {
				list = append(list, api.Instr{Op: api.Tlbi, D: d, Kind: k})
			}
		}
	}
	for _, imm := range []int{-1 << 25, -1, 0, 1<<25 - 1} {
		list = append(list, api.Instr{Op: api.B, Imm: imm})
	}
	for _, imm := range []int{-1 << 18, 0, 1<<18 - 1} {
		list = append(list, api.Instr{Op: api.Bcond, Imm: imm}, api.Instr{Op: api.Bcond, Kind: 1, Imm: imm})
	}
	for _, k := range []int{9, 10, 11, 13, 14, 15} {
		list = append(list, api.Instr{Op: api.Dmb, Kind: k}, api.Instr{Op: api.Dsb, Kind: k})
	}
	return append(list, api.Instr{Op: api.Tlbi, D: 31}, api.Instr{Op: api.Tlbi, D: 31, Kind: 4})
}

func TestWords(t *testing.T) { // P3.1: words of the set's own manual
	for _, x := range []struct {
		x api.Instr
		w uint32
	}{
		{api.Instr{Op: api.Ldr, D: 1, N: 2, Imm: 8}, 0xf9400441},
		{api.Instr{Op: api.Str, D: 1, N: 2, Imm: 32760}, 0xf93ffc41},
		{api.Instr{Op: api.Tlbi, D: 3, Kind: 1}, 0xd5088323},
		{api.Instr{Op: api.Tlbi, D: 3, Kind: 2}, 0xd5088363},
		{api.Instr{Op: api.Tlbi, D: 3, Kind: 3}, 0xd5088343},
		{api.Instr{Op: api.Tlbi, D: 31, Kind: 0}, 0xd508831f},
		{api.Instr{Op: api.Tlbi, D: 31, Kind: 4}, 0xd508871f},
		{api.Instr{Op: api.Tlbi, D: 0, Kind: 7}, 0xd5088740},
		{api.Instr{Op: api.Ldar, D: 1, N: 2}, 0xc8dffc41},
		{api.Instr{Op: api.Stlr, D: 1, N: 2}, 0xc89ffc41},
		{api.Instr{Op: api.Movz, D: 1, Imm: 5, Kind: 1}, 0xd2a000a1},
		{api.Instr{Op: api.AddI, D: 1, N: 2, Imm: 3}, 0x91000c41},
		{api.Instr{Op: api.Subs, D: 31, N: 1, M: 2}, 0xeb02003f},
		{api.Instr{Op: api.B, Imm: -1}, 0x17ffffff},
		{api.Instr{Op: api.Cbnz, D: 2, Imm: -1}, 0xb5ffffe2},
		{api.Instr{Op: api.Bcond, Kind: 1, Imm: 2}, 0x54000041},
		{api.Instr{Op: api.Dmb, Kind: 15}, 0xd5033fbf},
		{api.Instr{Op: api.Dsb, Kind: 9}, 0xd503399f},
		{api.Instr{Op: api.Mrs, D: 2, Kind: 0}, 0xd5385202},
		{api.Instr{Op: api.Mrs, D: 2, Kind: 1}, 0xd5386002},
		{api.Instr{Op: api.Mrs, D: 2, Kind: 2}, 0xd5384022},
		{api.Instr{Op: api.Nop}, 0xd503201f}, {api.Instr{Op: api.Isb}, 0xd5033fdf}, {api.Instr{Op: api.Eret}, 0xd69f03e0},
	} {
		if w, e := Encode(x.x); w != x.w || e != api.OK {
			t.Errorf("Encode(%v): %x, %d", x.x, w, e)
		}
	}
}

func TestWrong(t *testing.T) { // P3.1
	list := []api.Instr{
		{}, {Op: -1}, {Op: 24}, {Op: math.MaxInt}, {Op: api.Nop, D: 1}, {Op: api.Isb, Kind: 15}, {Op: api.Eret, N: 30},
		{Op: api.Ldr, D: 32}, {Op: api.Ldr, D: -1}, {Op: api.Ldr, N: 32}, {Op: api.Ldr, M: 1}, {Op: api.Ldr, Imm: 4}, {Op: api.Ldr, Imm: -8}, {Op: api.Ldr, Imm: 32768}, {Op: api.Ldr, Kind: 1},
		{Op: api.Ldar, Imm: 8}, {Op: api.Stlr, Imm: 8}, {Op: api.Movz, Imm: 65536}, {Op: api.Movz, Imm: -1}, {Op: api.Movz, Kind: 4}, {Op: api.Movz, Kind: -1}, {Op: api.Movz, N: 1},
		{Op: api.AddI, Imm: 4096}, {Op: api.AddI, Imm: -1}, {Op: api.AddI, M: 1}, {Op: api.Add, Imm: 1}, {Op: api.Add, M: 32}, {Op: api.Subs, Kind: 1},
		{Op: api.B, Imm: 1 << 25}, {Op: api.B, Imm: -1<<25 - 1}, {Op: api.B, D: 1}, {Op: api.Cbz, Imm: 1 << 18}, {Op: api.Cbz, Imm: -1<<18 - 1}, {Op: api.Cbz, Kind: 1}, {Op: api.Bcond, Kind: 2}, {Op: api.Bcond, D: 1},
		{Op: api.Dmb}, {Op: api.Dmb, Kind: 8}, {Op: api.Dmb, Kind: 12}, {Op: api.Dsb, Kind: 16}, {Op: api.Dsb, Kind: 15, D: 1},
		{Op: api.Tlbi}, {Op: api.Tlbi, D: 30, Kind: 4}, {Op: api.Tlbi, D: 31, Kind: 8}, {Op: api.Tlbi, D: 31, Kind: -4}, {Op: api.Tlbi, D: 32, Kind: 1}, {Op: api.Tlbi, D: 1, Kind: 1, Imm: 1},
		{Op: api.Mrs, Kind: 3}, {Op: api.Mrs, Kind: -1}, {Op: api.Mrs, N: 1}, {Op: api.Ldr, Imm: math.MinInt}, {Op: api.B, Imm: math.MaxInt},
	}
	for _, x := range list {
		if e := Right(x); e != api.ErrField {
			t.Errorf("Right(%v): %d", x, e)
		}
		if w, e := Encode(x); w != 0 || e != api.ErrField {
			t.Errorf("Encode(%v): %x, %d", x, w, e)
		}
	}
	for _, x := range right() {
		if e := Right(x); e != api.OK {
			t.Errorf("Right(%v): %d", x, e)
		}
	}
}

func TestDecode(t *testing.T) { // P3.2, P3.3
	seen := map[uint32]api.Instr{}
	for _, x := range right() {
		w, _ := Encode(x)
		if y, ok := seen[w]; ok && x != y {
			t.Errorf("%v and %v have one word", x, y)
		}
		seen[w] = x
		if y, e := Decode(w); x != y || e != api.OK {
			t.Errorf("Decode(%x): %v, %d for %v", w, y, e, x)
		}
	}
	for _, w := range []uint32{0, math.MaxUint32, 0xd5033cbf, 0xd50330bf, 0x54000002, 0x54000010, 0x91400000, 0x8b000400, 0x8b400000, 0xd5088300, 0xd5088380, 0xd5088320 | 0x800, 0xd5385201 | 0x80, 0xf8400000, 0xd2800000 ^ 1<<23, 0xc8dff800} {
		if x, e := Decode(w); x != (api.Instr{}) || e != api.ErrWord {
			t.Errorf("Decode(%x): %v, %d", w, x, e)
		}
	}
	near(t)
}

// near: words one or two bits away from right ones are either none, or just those of what they tell.
func near(t *testing.T) {
	for _, x := range right() {
		w, _ := Encode(x)
		for i := range 32 {
			for j := range i + 1 {
				v := w ^ 1<<i ^ 1<<j&^(1<<i)
				y, e := Decode(v)
				if e == api.ErrWord {
					continue
				}
				if u, e := Encode(y); e != api.OK || u != v {
					t.Fatalf("Encode of Decode of %x: %x", v, u)
				}
			}
		}
	}
}
