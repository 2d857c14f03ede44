package desc

import (
	"math"
	"testing"

	"granule/api"
)

func TestDecode(t *testing.T) { // P7.1
	for _, c := range []struct {
		w     uint64
		level int
		want  api.Desc
	}{
		{0x40000403, 2, Page(0x40000000)},
		{0x3003, 1, Table(0x3000)},
		{0x3000, 1, api.Desc{}}, {0x3000, 2, api.Desc{}}, {0x3002, 1, api.Desc{}},
		{0x401, 1, api.Desc{Valid: true, Used: true}},
		{0xffffffff, 2, api.Desc{Valid: true, Used: true, ReadOnly: true, User: true, Own: true, Out: 0xfffff000}},
		{0xfffffffd, 1, api.Desc{Valid: true, Used: true, ReadOnly: true, User: true, Own: true, Out: 0xffe00000}},
		{0xffffffff, 1, Table(0xfffff000)},
		{0x401, 2, api.Desc{}}, {0x403, 0, api.Desc{}}, {0x403, 3, api.Desc{}}, {0x403, -1, api.Desc{}},
		{0x43, 2, api.Desc{Valid: true, User: true}}, {0x83, 2, api.Desc{Valid: true, ReadOnly: true}}, {0x803, 2, api.Desc{Valid: true, Own: true}},
		{0x403 | 1<<32, 2, api.Desc{}}, {0x403 | 1<<47, 2, api.Desc{}}, {0x3003 | 1<<40, 1, api.Desc{}},
		{0x403 | 0xffff<<48, 2, Page(0)}, {0xb3f | 1<<48, 2, api.Desc{Valid: true, Own: true}},
	} {
		if got := Decode(c.w, c.level); got != c.want {
			t.Errorf("Decode(%x, %d): %+v", c.w, c.level, got)
		}
	}
}

func TestCheck(t *testing.T) { // P7.2
	bad := []struct {
		d     api.Desc
		level int
	}{
		{api.Desc{Used: true}, 2}, {api.Desc{Out: 0x1000}, 2}, {api.Desc{Table: true}, 1},
		{Page(0), 0}, {Page(0), 3}, {Page(0), -1}, {Table(0x1000), 2},
		{api.Desc{Valid: true, Table: true, Used: true}, 1}, {api.Desc{Valid: true, Table: true, ReadOnly: true}, 1}, {api.Desc{Valid: true, Table: true, User: true}, 1}, {api.Desc{Valid: true, Table: true, Own: true}, 1},
		{Page(1 << 32), 2}, {Page(0x1008), 2}, {Page(0x800), 2}, {Page(0x1000), 1}, {Page(0x100000), 1}, {Table(0x10), 1}, {Table(1 << 33), 1}, {Page(math.MaxUint64 &^ 0xfff), 2},
	}
	for _, c := range bad {
		if e := Check(c.d, c.level); e != api.ErrDesc {
			t.Errorf("Check(%+v, %d): %d", c.d, c.level, e)
		}
		if w, e := Encode(c.d, c.level); w != 0 || e != api.ErrDesc {
			t.Errorf("Encode(%+v, %d): %x, %d", c.d, c.level, w, e)
		}
	}
	for _, level := range []int{-1, 0, 1, 2, 3} {
		if w, e := Encode(api.Desc{}, level); w != 0 || e != api.OK || Check(api.Desc{}, level) != api.OK {
			t.Errorf("the zero one at level %d: %x, %d", level, w, e)
		}
	}
	if w, _ := Encode(Page(0x40000000), 2); w != 0x40000403 {
		t.Errorf("Encode of a page: %x", w)
	}
	if w, _ := Encode(Page(0x40000000), 1); w != 0x40000401 {
		t.Errorf("Encode of a block: %x", w)
	}
	if w, _ := Encode(Table(0x3000), 1); w != 0x3003 {
		t.Errorf("Encode of a table: %x", w)
	}
}

func TestFollows(t *testing.T) { // P7.4
	for bits := range 16 {
		d := api.Desc{Valid: true, Used: bits&1 > 0, ReadOnly: bits&2 > 0, User: bits&4 > 0, Own: bits&8 > 0, Out: 0xffe00000}
		for level := 1; level <= 2; level++ {
			w, e := Encode(d, level)
			if e != api.OK || Decode(w, level) != d {
				t.Errorf("%+v at %d: %x, %d", d, level, w, e)
			}
		}
	}
	for _, d := range []api.Desc{{}, Table(0), Table(0xfffff000)} {
		if w, e := Encode(d, 1); e != api.OK || Decode(w, 1) != d {
			t.Errorf("%+v: %x, %d", d, w, e)
		}
	}
}

func TestAddress(t *testing.T) { // P7.3
	if Address(Page(0x40000000), 2, 0x12345678) != 0x40000678 || Address(Page(0x40000000), 1, 0x12345678) != 0x40145678 || Address(Table(0x3000), 1, 0x12345678) != 0x3678 {
		t.Error("Address")
	}
	for _, c := range []struct {
		d           api.Desc
		read, write int
	}{
		{api.Desc{}, api.FaultTrans, api.FaultTrans},
		{api.Desc{Used: true}, api.FaultTrans, api.FaultTrans},
		{api.Desc{Valid: true, ReadOnly: true}, api.FaultFlag, api.FaultFlag},
		{api.Desc{Valid: true, Used: true, ReadOnly: true}, api.FaultNone, api.FaultPerm},
		{Page(0), api.FaultNone, api.FaultNone},
	} {
		if Allowed(c.d, false) != c.read || Allowed(c.d, true) != c.write {
			t.Errorf("Allowed of %+v", c.d)
		}
	}
	if !Kept(Page(0)) || Kept(api.Desc{}) || Kept(api.Desc{Valid: true}) || Kept(api.Desc{Used: true}) || Kept(api.Desc{Valid: true, Used: true, Table: true}) {
		t.Error("Kept")
	}
	if Slot(0x1000, 0x3fffffff, 1) != 0x1ff8 || Slot(0x1000, 0x3fffffff, 2) != 0x1ff8 || Slot(0x1000, 0x200000, 1) != 0x1008 || Slot(0x1000, 0x1000, 2) != 0x1008 || Slot(0x1000, 0x1000, 3) != 0x1000 {
		t.Error("Slot")
	}
	if Page(5) != (api.Desc{Valid: true, Used: true, Out: 5}) || Table(5) != (api.Desc{Valid: true, Table: true, Out: 5}) {
		t.Error("Page or Table")
	}
}
