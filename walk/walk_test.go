package walk

import (
	"math"
	"testing"

	"granule/api"
	"granule/store"
)

// memory: tables at 0x1000 and 0x2000; the first one leads to the second one, to nothing, to a block and to a block that isn't used.
func memory(t *testing.T) store.Memory {
	t.Helper()
	m, e := store.Of([]api.Cell{
		{Addr: 0x1000, Value: 0x2003}, {Addr: 0x1010, Value: 0x40000401}, {Addr: 0x1018, Value: 0x40000001}, {Addr: 0x1ff8, Value: 0x40000481},
		{Addr: 0x2008, Value: 0x5403}, {Addr: 0x2010, Value: 0x5003}, {Addr: 0x2018, Value: 0x5483}, {Addr: 0x2020, Value: 0x5401},
	})
	if e != api.OK {
		t.Fatal(e)
	}
	return m
}

func TestWalk(t *testing.T) { // P8.1 to P8.3
	m := memory(t)
	for _, c := range []struct {
		va    uint64
		write bool
		want  Result
	}{
		{0x1010, false, Result{Addr: 0x5010, First: 0x2003, Last: 0x5403, Reads: 2}},
		{0x1010, true, Result{Addr: 0x5010, First: 0x2003, Last: 0x5403, Reads: 2}},
		{0x2010, false, Result{Fault: api.Fault{Kind: api.FaultFlag, Level: 2}, First: 0x2003, Last: 0x5003, Reads: 2}},
		{0x3ff8, true, Result{Fault: api.Fault{Kind: api.FaultPerm, Level: 2, Write: true}, First: 0x2003, Last: 0x5483, Reads: 2}},
		{0x3ff8, false, Result{Addr: 0x5ff8, First: 0x2003, Last: 0x5483, Reads: 2}},
		{0x4000, true, Result{Fault: api.Fault{Kind: api.FaultTrans, Level: 2, Write: true}, First: 0x2003, Last: 0x5401, Reads: 2}},
		{0x200000, true, Result{Fault: api.Fault{Kind: api.FaultTrans, Level: 1, Write: true}, Reads: 1}},
		{0x5fff18, true, Result{Addr: 0x401fff18, First: 0x40000401, Reads: 1}},
		{0x600000, false, Result{Fault: api.Fault{Kind: api.FaultFlag, Level: 1}, First: 0x40000001, Reads: 1}},
		{0x3ffffff8, true, Result{Fault: api.Fault{Kind: api.FaultPerm, Level: 1, Write: true}, First: 0x40000481, Reads: 1}},
		{0x40000000, false, Result{Fault: api.Fault{Kind: api.FaultVA}}},
		{0x40000004, true, Result{Fault: api.Fault{Kind: api.FaultAlign, Write: true}}},
		{math.MaxUint64, false, Result{Fault: api.Fault{Kind: api.FaultAlign}}},
		{0x1011, false, Result{Fault: api.Fault{Kind: api.FaultAlign}}},
	} {
		if got := Walk(m, 0x1000, c.va, c.write); got != c.want {
			t.Errorf("Walk %x %t: %+v", c.va, c.write, got)
		}
	}
}

func TestFirst(t *testing.T) { // P8.1, P8.2
	if f, a, more := First(0x2003, 0x1010); f != (api.Fault{}) || a != 0x2008 || !more {
		t.Errorf("First of a table: %v %x", f, a)
	}
	if f, a, more := First(0x401, 0x1010); f != (api.Fault{}) || a != 0 || more {
		t.Errorf("First of a block: %v %x", f, a)
	}
	if f, a, more := First(0x2002, 0x1010); f != (api.Fault{Kind: api.FaultTrans, Level: 1}) || a != 0 || more {
		t.Errorf("First of none: %v %x", f, a)
	}
	if d, level := Leaf(0x2003, 0x5403); level != 2 || d.Out != 0x5000 {
		t.Errorf("Leaf of a table: %v %d", d, level)
	}
	if d, level := Leaf(0x401, 0x5403); level != 1 || d.Out != 0 || !d.Valid {
		t.Errorf("Leaf of a block: %v %d", d, level)
	}
	if d, level := Leaf(0, 0x5403); level != 1 || d != (api.Desc{}) {
		t.Errorf("Leaf of none: %v %d", d, level)
	}
	if f, a := Through(0x2003, 0x5403, 0x1011, true); f.Kind != api.FaultAlign || a != 0 {
		t.Errorf("Through: %v %x", f, a)
	}
	if Before(8, true) != (api.Fault{}) || Before(1<<30, true) != (api.Fault{Kind: api.FaultVA, Write: true}) || Before(1<<30|1, false) != (api.Fault{Kind: api.FaultAlign}) {
		t.Error("Before")
	}
}

func TestSyndrome(t *testing.T) { // P8.4, P8.6
	for f, w := range map[api.Fault]uint64{
		{}:                                 0,
		{Kind: 3, Level: 1, Write: true}:   0x96000045,
		{Kind: 3, Level: 2}:                0x96000006,
		{Kind: 1}:                          0x96000021,
		{Kind: 2, Write: true}:             0x96000044,
		{Kind: 4, Level: 2}:                0x9600000a,
		{Kind: 5, Level: 1, Write: true}:   0x9600004d,
		{Kind: 9, Level: 4, Write: true}:   0x96000061,
		{Kind: -1}:                         0x96000021,
		{Kind: 5, Level: -13}:              0x9600003f,
		{Kind: 4, Level: math.MinInt + 64}: 0x96000008,
	} {
		if Syndrome(f) != w {
			t.Errorf("Syndrome(%v): %x", f, Syndrome(f))
		}
	}
	told := 0
	for _, high := range []uint64{0x96000000, 0x92000000, 0x94000000, 0x196000000, 0} {
		for low := range uint64(256) {
			f, ok := FaultOf(high | low)
			if !ok && f != (api.Fault{}) || ok && Syndrome(f) != high|low {
				t.Errorf("FaultOf(%x): %v", high|low, f)
			}
			if ok {
				told++
			}
		}
	}
	if told != 16 {
		t.Errorf("FaultOf tells %d", told)
	}
	for _, write := range []bool{false, true} {
		for kind := 1; kind <= 5; kind++ {
			for level := range 3 {
				f := api.Fault{Kind: kind, Level: level, Write: write}
				g, ok := FaultOf(Syndrome(f))
				if may := (kind <= 2) == (level == 0); may && (g != f || !ok) {
					t.Errorf("FaultOf of Syndrome of %v: %v", f, g)
				}
			}
		}
	}
}

func TestBeside(t *testing.T) { // P8.5
	m := memory(t)
	for _, va := range []uint64{0x1010, 0x200000, 0x400000} {
		want := Walk(m, 0x1000, va, true)
		for a := uint64(0x1000); a < 0x2040; a += 8 {
			if a == 0x1000+va>>21*8 || want.Reads == 2 && a == 0x2000+va>>12%512*8 {
				continue
			}
			n, _ := m.Write(a, 0x7777777777777403)
			if Walk(n, 0x1000, va, true) != want {
				t.Errorf("a write to %x changes the walk of %x", a, va)
			}
		}
	}
}
