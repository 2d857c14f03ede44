package store

import (
	"math"
	"slices"
	"testing"

	"granule/api"
)

// keys: numbers that part at all bits.
func keys() []uint64 {
	list := []uint64{0, math.MaxUint64, 0x1000, 0x1008, 0x8000000000001000}
	for i := range 64 {
		list = append(list, 1<<i, 3<<i, math.MaxUint64<<i)
	}
	return list
}

func TestMap(t *testing.T) { // P6.1, P6.4
	var m Map[string]
	if _, ok := m.Get(0); ok || m.Len() != 0 || m.Without(3).Len() != 0 {
		t.Error("the zero map has something")
	}
	want := map[uint64]string{}
	made := []Map[string]{m}
	for i, k := range slices.Concat(keys(), keys()[:40]) {
		v := string(rune('a' + i%26))
		m = m.With(k, v)
		want[k] = v
		made = append(made, m)
		check(t, m, want)
	}
	if made[0].Len() != 0 || made[1].Len() != 1 || made[2].Len() != 2 {
		t.Error("a map was changed")
	}
	if v, ok := made[1].Get(0); v != "a" || !ok {
		t.Error("a map was changed")
	}
	full := m
	for _, k := range keys() {
		m = m.Without(k)
		delete(want, k)
		check(t, m, want)
	}
	if full.Len() == 0 || m.Len() != 0 {
		t.Error("Without changed its map")
	}
}

func check(t *testing.T, m Map[string], want map[uint64]string) {
	t.Helper()
	n, last := 0, uint64(0)
	for k, v := range m.Each() {
		if n > 0 && k <= last || want[k] != v {
			t.Fatalf("Each: %x %s", k, v)
		}
		n, last = n+1, k
	}
	if n != len(want) || m.Len() != n {
		t.Fatalf("Each gave out %d of %d, Len %d", n, len(want), m.Len())
	}
	for _, k := range keys() {
		v, ok := m.Get(k)
		if w, is := want[k]; v != w || ok != is {
			t.Fatalf("Get(%x): %q", k, v)
		}
	}
}

func TestStop(t *testing.T) { // P6.1
	var m Map[int]
	for k := range 100 {
		m = m.With(uint64(k), k)
	}
	seen := 0
	for k := range m.Each() {
		seen++
		if k == 41 {
			break
		}
	}
	if seen != 42 {
		t.Errorf("gave out %d", seen)
	}
	calls := 0
	m.Each()(func(uint64, int) bool { calls++; return false })
	if calls != 1 {
		t.Errorf("called %d times", calls)
	}
	if n, ok := m.With(7, 0).Get(7); n != 0 || !ok {
		t.Error("a zero thing is a thing")
	}
}

func TestMemory(t *testing.T) { // P6.2
	for a, e := range map[uint64]api.Errno{0: api.OK, 8: api.OK, 4: api.ErrAlign, 1<<32 - 8: api.OK, 1 << 32: api.ErrRange, 1<<32 + 1: api.ErrAlign, math.MaxUint64: api.ErrAlign, math.MaxUint64 - 7: api.ErrRange} {
		if Check(a) != e {
			t.Errorf("Check(%x): %d", a, Check(a))
		}
		var m Memory
		w, f := m.Write(a, 5)
		if f != e || (e == api.OK) != (w.Read(a) == 5) || len(m.Cells()) != 0 {
			t.Errorf("Write(%x): %d", a, f)
		}
		if _, f := Of([]api.Cell{{Addr: 8, Value: 1}, {Addr: a, Value: 2}, {Addr: 3}}); f != api.ErrAlign && e == api.OK || e != api.OK && f != e {
			t.Errorf("Of with %x: %d", a, f)
		}
	}
	m, e := Of([]api.Cell{{Addr: 8, Value: 1}, {Addr: 16}, {Addr: 24, Value: 2}, {Addr: 24, Value: 3}})
	if e != api.OK || !slices.Equal(m.Cells(), []api.Cell{{Addr: 8, Value: 1}, {Addr: 24, Value: 3}}) {
		t.Errorf("Of: %v, %d", m.Cells(), e)
	}
	if m.Read(16) != 0 || m.Read(25) != 0 || m.Read(1<<40) != 0 || m.Read(24) != 3 {
		t.Error("Read")
	}
	bad, e := Of([]api.Cell{{Addr: 8, Value: 1}, {Addr: 9}})
	if e != api.ErrAlign || len(bad.Cells()) != 0 {
		t.Error("Of beside an error")
	}
}

func TestFull(t *testing.T) { // P6.2: MaxCells
	var m Memory
	e := api.OK
	for i := range api.MaxCells {
		if m, e = m.Write(uint64(i)*8, 1); e != api.OK {
			t.Fatalf("Write %d: %d", i, e)
		}
	}
	w, e := m.Write(0x8000, 1)
	if e != api.ErrLong || !Same(m, w) {
		t.Errorf("one more: %d", e)
	}
	if w, e := m.Write(0x8000, 0); e != api.OK || !Same(m, w) {
		t.Errorf("a 0 more: %d", e)
	}
	if w, e := m.Write(8, 2); e != api.OK || w.Read(8) != 2 || m.Read(8) != 1 {
		t.Errorf("another value: %d", e)
	}
	if w, _ := m.Write(8, 0); len(w.Cells()) != 255 {
		t.Error("a cell that holds 0 counts")
	}
}

func TestSame(t *testing.T) { // P6.3, P6.5
	lists := [][]api.Cell{nil, {{Addr: 8, Value: 1}}, {{Addr: 8, Value: 256}}, {{Addr: 0x800, Value: 1}}, {{Addr: 8, Value: 1}, {Addr: 16, Value: 1}}, {{Addr: 16, Value: 1}, {Addr: 8, Value: 1}}, {{Addr: 8, Value: 1}, {Addr: 16}}}
	for i, x := range lists {
		for j, y := range lists {
			a, _ := Of(x)
			b, _ := Of(y)
			want := slices.Equal(a.Cells(), b.Cells())
			if Same(a, b) != want || (a.Key() == b.Key()) != want || want != (i == j || i+j == 9 && i*j == 20 || i+j == 7 && i*j == 6) {
				t.Errorf("Same of %v and %v", x, y)
			}
		}
	}
	m, _ := Of(lists[4])
	c := m.Cells()
	c[0].Value = 9
	if m.Read(8) != 1 {
		t.Error("Cells shares")
	}
}
