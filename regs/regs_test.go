package regs

import (
	"math"
	"slices"
	"testing"

	"granule/api"
)

func TestFile(t *testing.T) { // P5.1
	f := Of([]uint64{5, 6})
	if f.Get(0) != 5 || f.Get(1) != 6 || f.Get(2) != 0 || f.Same || f.Sys != [3]uint64{} {
		t.Error("Of")
	}
	long := make([]uint64, 40)
	for i := range long {
		long[i] = uint64(i) + 1
	}
	f = Of(long)
	long[3] = 99
	if f.Get(30) != 31 || f.Get(31) != 0 || f.Get(32) != 0 || f.Get(-1) != 0 || f.Get(math.MaxInt) != 0 || f.Get(3) != 4 {
		t.Error("Of of many, or Get")
	}
	before := f
	for _, n := range []int{31, 32, -1, math.MinInt} {
		f.Set(n, 7)
	}
	if f != before {
		t.Error("Set of what is none")
	}
	f.Set(30, 7)
	s := f.Show()
	if len(s) != 31 || s[30] != 7 || s[0] != 1 {
		t.Errorf("Show: %v", s)
	}
	s[0] = 99
	if f.X[0] != 1 {
		t.Error("Show shares")
	}
}

func TestTold(t *testing.T) { // P5.2
	for _, c := range []struct {
		x                   api.Instr
		address, data, sets []int
		kinds               string
	}{
		{api.Instr{Op: api.Ldr, D: 1, N: 2}, []int{2}, nil, []int{1}, "LA"},
		{api.Instr{Op: api.Ldar, D: 31, N: 31}, nil, nil, nil, "LA"},
		{api.Instr{Op: api.Str, D: 1, N: 2}, []int{2}, []int{1}, nil, "SA"},
		{api.Instr{Op: api.Stlr, D: 31, N: 0}, []int{0}, nil, nil, "SA"},
		{api.Instr{Op: api.Movz, D: 3}, nil, nil, []int{3}, ""},
		{api.Instr{Op: api.AddI, D: 3, N: 4}, nil, []int{4}, []int{3}, ""},
		{api.Instr{Op: api.Add, D: 3, N: 5, M: 4}, nil, []int{5, 4}, []int{3}, ""},
		{api.Instr{Op: api.Eor, D: 3, N: 4, M: 4}, nil, []int{4}, []int{3}, ""},
		{api.Instr{Op: api.And, D: 31, N: 31, M: 4}, nil, []int{4}, nil, ""},
		{api.Instr{Op: api.Subs, D: 31, N: 4, M: 31}, nil, []int{4}, []int{Flag}, ""},
		{api.Instr{Op: api.Subs, D: 2, N: 4, M: 6}, nil, []int{4, 6}, []int{2, Flag}, ""},
		{api.Instr{Op: api.B}, nil, nil, nil, ""},
		{api.Instr{Op: api.Cbz, D: 1}, nil, []int{1}, nil, "B"},
		{api.Instr{Op: api.Cbnz, D: 0}, nil, []int{0}, nil, "B"},
		{api.Instr{Op: api.Bcond}, nil, []int{Flag}, nil, "B"},
		{api.Instr{Op: api.Tlbi, D: 1, Kind: 1}, nil, []int{1}, nil, ""},
		{api.Instr{Op: api.Tlbi, D: 31}, nil, nil, nil, ""},
		{api.Instr{Op: api.Mrs, D: 1}, nil, nil, []int{1}, ""},
		{api.Instr{Op: api.Dsb, Kind: 15}, nil, nil, nil, ""},
		{api.Instr{Op: api.Eret}, nil, nil, nil, ""},
		{api.Instr{Op: 99, D: 1, N: 2}, nil, nil, nil, ""},
	} {
		if !slices.Equal(Address(c.x), c.address) || !slices.Equal(Data(c.x), c.data) || !slices.Equal(Sets(c.x), c.sets) {
			t.Errorf("%v: %v, %v, %v", c.x, Address(c.x), Data(c.x), Sets(c.x))
		}
		kinds := ""
		for k, is := range []bool{Load(c.x), Store(c.x), Access(c.x), Branch(c.x)} {
			if is {
				kinds += string("LSAB"[k])
			}
		}
		if kinds != c.kinds {
			t.Errorf("%v: %s", c.x, kinds)
		}
	}
}

func TestWhere(t *testing.T) { // P5.3
	f := Of([]uint64{7, math.MaxUint64, 0})
	if f.Where(api.Instr{Op: api.Ldr, N: 1, Imm: 8}) != 7 || f.Where(api.Instr{Op: api.Ldr, N: 31, Imm: 16}) != 16 || f.Where(api.Instr{Op: api.Nop}) != 7 {
		t.Error("Where")
	}
	if f.Value(api.Instr{Op: api.Str, D: 1}) != math.MaxUint64 || f.Value(api.Instr{Op: api.Str, D: 31}) != 0 || f.Value(api.Instr{Op: api.Nop}) != 7 {
		t.Error("Value")
	}
	for _, c := range []struct {
		x    api.Instr
		want bool
	}{
		{api.Instr{Op: api.B}, true}, {api.Instr{Op: api.Nop}, false}, {api.Instr{Op: api.Ldr, D: 2}, false},
		{api.Instr{Op: api.Cbz, D: 2}, true}, {api.Instr{Op: api.Cbz, D: 0}, false}, {api.Instr{Op: api.Cbz, D: 31}, true},
		{api.Instr{Op: api.Cbnz, D: 2}, false}, {api.Instr{Op: api.Cbnz, D: 0}, true},
		{api.Instr{Op: api.Bcond}, false}, {api.Instr{Op: api.Bcond, Kind: 1}, true},
	} {
		if f.Taken(c.x) != c.want {
			t.Errorf("Taken of %v", c.x)
		}
	}
	f.Same = true
	if !f.Taken(api.Instr{Op: api.Bcond}) || f.Taken(api.Instr{Op: api.Bcond, Kind: 1}) {
		t.Error("Taken by the flag")
	}
	for _, op := range []int{api.B, api.Cbz, api.Cbnz, api.Bcond} {
		if Next(10, api.Instr{Op: op, Imm: 5}, true) != 15 || Next(10, api.Instr{Op: op, Imm: -5}, true) != 5 || Next(10, api.Instr{Op: op, Imm: 5}, false) != 11 {
			t.Errorf("Next of %d", op)
		}
	}
	if Next(10, api.Instr{Op: api.Ldr, Imm: 8}, true) != 11 {
		t.Error("Next of what is no branch")
	}
}

func TestDo(t *testing.T) { // P5.4
	begin := Of([]uint64{0, 12, 10, math.MaxUint64})
	begin.Sys = [3]uint64{70, 71, 72}
	for _, c := range []struct {
		x    api.Instr
		want uint64
	}{
		{api.Instr{Op: api.Movz, Imm: 3, Kind: 3}, 3 << 48}, {api.Instr{Op: api.Movz, Imm: 3}, 3},
		{api.Instr{Op: api.AddI, N: 3, Imm: 2}, 1}, {api.Instr{Op: api.Add, N: 1, M: 3}, 11}, {api.Instr{Op: api.Sub, N: 2, M: 1}, math.MaxUint64 - 1},
		{api.Instr{Op: api.And, N: 1, M: 2}, 8}, {api.Instr{Op: api.Orr, N: 1, M: 2}, 14}, {api.Instr{Op: api.Eor, N: 1, M: 2}, 6}, {api.Instr{Op: api.Subs, N: 1, M: 2}, 2},
		{api.Instr{Op: api.Mrs, Kind: 0}, 70}, {api.Instr{Op: api.Mrs, Kind: 1}, 71}, {api.Instr{Op: api.Mrs, Kind: 2}, 72},
		{api.Instr{Op: api.Ldr, N: 1}, 0}, {api.Instr{Op: api.Nop}, 0},
	} {
		f := begin
		f.Do(c.x)
		if f.Get(0) != c.want {
			t.Errorf("%v: %x", c.x, f.Get(0))
		}
		f.X[0] = 0
		if f != begin {
			t.Errorf("%v changed more", c.x)
		}
	}
	f := begin
	f.Do(api.Instr{Op: api.Subs, D: 31, N: 3, M: 3})
	if !f.Same || f.X != begin.X {
		t.Error("Subs of alike ones")
	}
	f.Do(api.Instr{Op: api.Subs, D: 1, N: 1, M: 2})
	if f.Same || f.Get(1) != 2 {
		t.Error("Subs of unlike ones")
	}
}

func TestFollows(t *testing.T) { // P5.5
	for op := api.Nop; op <= api.Mrs; op++ {
		x := api.Instr{Op: op, D: 4, N: 5, M: 6, Imm: 1}
		a, b := Of(nil), Of(nil)
		for n := range 31 {
			a.Set(n, uint64(n)*3)
			b.Set(n, uint64(n)*7)
		}
		for _, n := range Data(x) {
			b.Set(n, a.Get(n))
		}
		was := a
		a.Do(x)
		b.Do(x)
		sets := Sets(x)
		for n := range 31 {
			if !slices.Contains(sets, n) && a.Get(n) != was.Get(n) {
				t.Errorf("operation %d changed %d", op, n)
			}
			if slices.Contains(sets, n) && !Load(x) && a.Get(n) != b.Get(n) {
				t.Errorf("operation %d hangs on more than its Data", op)
			}
		}
		if a.Sys != was.Sys || a.Same != was.Same && !slices.Contains(sets, Flag) {
			t.Errorf("operation %d changed the flag or more", op)
		}
	}
}

func TestAnything(t *testing.T) { // P1
	for _, n := range []int{math.MinInt, -1, 24, 32, math.MaxInt} {
		for op := -1; op < 30; op++ {
			x := api.Instr{Op: op, D: n, N: n, M: n, Imm: n, Kind: n}
			f := Of(nil)
			f.Do(x)
			f.Where(x)
			f.Value(x)
			f.Taken(x)
			Next(1, x, true)
			Address(x)
			Data(x)
			Sets(x)
		}
	}
}
