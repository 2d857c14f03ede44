package tlb

import (
	"math"
	"slices"
	"testing"

	"granule/api"
)

const (
	table  = 0x2003
	page   = 0x5403
	spaced = 0x5c03 // a page of one space alone
	block  = 0x401
	mine   = 0xc01 // a block of one space alone
)

func fill(t *testing.T, space int, va, first, last uint64) api.Entry {
	t.Helper()
	e, ok := Fill(space, va, first, last)
	if !ok {
		t.Fatalf("Fill(%d, %x, %x, %x)", space, va, first, last)
	}
	return e
}

func TestFill(t *testing.T) { // P9.1
	if e := fill(t, 1, 0x1010, table, page); e != (api.Entry{Space: 1, Page: 0x1000, First: table, Last: page}) {
		t.Errorf("Fill of a page: %+v", e)
	}
	if e := fill(t, 1, 0x3fffff, block, page); e != (api.Entry{Space: 1, Page: 0x200000, First: block}) {
		t.Errorf("Fill of a block: %+v", e)
	}
	for _, x := range [][2]uint64{{0, page}, {table, 0}, {table, 0x5003}, {table, 0x5401}, {1, 0}, {table, page | 1<<32}, {block | 1<<40, 0}} {
		if e, ok := Fill(1, 0x1010, x[0], x[1]); ok || e != (api.Entry{}) {
			t.Errorf("Fill of %x: %+v", x, e)
		}
	}
}

func TestServes(t *testing.T) { // P9.1
	for _, c := range []struct {
		e              api.Entry
		space          int
		va             uint64
		covers, serves bool
	}{
		{fill(t, 1, 0x1010, table, page), 2, 0x1fff, true, true},
		{fill(t, 1, 0x1010, table, page), 1, 0x2000, false, false},
		{fill(t, 1, 0x1010, table, spaced), 2, 0x1000, true, false},
		{fill(t, 1, 0x1010, table, spaced), 1, 0x1000, true, true},
		{fill(t, 1, 0x201010, block, 0), 2, 0x3fffff, true, true},
		{fill(t, 1, 0x201010, block, 0), 2, 0x400000, false, false},
		{fill(t, 1, 0x201010, mine, 0), 2, 0x3fffff, true, false},
		{fill(t, 1, 0x201010, mine, 0), 1, 0x3fffff, true, true},
		{fill(t, 1, 0x201010, block, 0), 1, 0x1fffff, false, false},
		{api.Entry{Page: 0x200000}, 0, 0x201000, false, false},
		{api.Entry{Page: 0x200000, First: table}, 0, 0x201000, false, false},
		{api.Entry{Page: 0x1000, First: block}, 0, 0x1008, false, false},
		{api.Entry{Page: 0x1000, First: block}, 0, 0x8, false, false},
		{api.Entry{Page: 0x201000, First: mine}, 0, 0x201000, false, false},
		{api.Entry{Page: 0x1000, First: block | 1<<32}, 0, 0x1008, true, true},
		{api.Entry{Page: 0x1000, First: block &^ 1}, 0, 0x1008, true, true},
		{api.Entry{Page: 0x1000, First: table}, 0, 0x1008, true, true},
		{api.Entry{First: block}, 0, 0x1fffff, true, true},
		{api.Entry{First: table}, 0, 0x1000, false, false},
		{api.Entry{Page: 1<<64 - 1<<21, First: block}, 0, math.MaxUint64, true, true},
		{api.Entry{Page: 1<<64 - 1<<12, First: block}, 0, math.MaxUint64, false, false},
		{api.Entry{Page: 0x1008}, 0, 0x1008, false, false},
	} {
		if Covers(c.e, c.va) != c.covers || Serves(c.e, c.space, c.va) != c.serves {
			t.Errorf("%+v for %d %x", c.e, c.space, c.va)
		}
	}
}

func TestBlockAtPage(t *testing.T) { // P9.1, P9.2, P9.3: a block's entry that isn't at a block's first byte
	for _, first := range []uint64{block, mine, 33, 2785873, 5071273, 1350567041} {
		for _, last := range []uint64{0, page, spaced} {
			e := api.Entry{Page: 0x1000, First: first, Last: last}
			var b Buffer
			b = b.With(e)
			for _, va := range []uint64{0, 0xfff, 0x1000, 0x1fff, 0x2000, 0x200000, 0x201000} {
				if Covers(e, va) || Serves(e, 0, va) || len(b.Serving(0, va)) != 0 {
					t.Errorf("%+v has %x", e, va)
				}
				for _, kind := range []int{api.TlbiVA, api.TlbiVAA} {
					f := api.Flush{Kind: kind, Page: va}
					if Takes(f, e) || !b.Drop(f).Has(e) {
						t.Errorf("%+v takes %+v", f, e)
					}
				}
			}
			if !Takes(api.Flush{}, e) || b.Drop(api.Flush{}).Len() != 0 {
				t.Errorf("an invalidation of all leaves %+v", e)
			}
		}
	}
}

func TestCoversOne(t *testing.T) { // P9.1: of all pages one is covered, by an entry of a block those of one block
	for _, c := range []struct {
		first uint64
		size  uint64
	}{{0, 1}, {table, 1}, {block &^ 1, 1}, {block | 1<<47, 1}, {block, 512}, {mine, 512}, {block | 1<<48, 512}} {
		for p := range uint64(1100) {
			e := api.Entry{Page: p << 12, First: c.first}
			for q := range uint64(1100) {
				if got := Covers(e, q<<12|0xabc); got != (q/c.size*c.size == p) {
					t.Fatalf("Covers of %+v and page %d: %v", e, q, got)
				}
			}
		}
	}
}

func TestTakes(t *testing.T) { // P9.2
	shared, alone := fill(t, 1, 0x1010, table, page), fill(t, 1, 0x1010, table, spaced)
	for _, c := range []struct {
		f             api.Flush
		shared, alone bool
	}{
		{api.Flush{Kind: api.TlbiAll}, true, true},
		{api.Flush{Kind: api.TlbiVA, Page: 0x1000, Space: 1}, true, true},
		{api.Flush{Kind: api.TlbiVA, Page: 0x1000, Space: 2}, true, false},
		{api.Flush{Kind: api.TlbiVA, Page: 0x2000, Space: 1}, false, false},
		{api.Flush{Kind: api.TlbiVAA, Page: 0x1000, Space: 2}, true, true},
		{api.Flush{Kind: api.TlbiVAA, Page: 0x2000}, false, false},
		{api.Flush{Kind: api.TlbiASID, Space: 1}, false, true},
		{api.Flush{Kind: api.TlbiASID, Space: 2}, false, false},
		{api.Flush{Kind: 4}, false, false}, {api.Flush{Kind: -1}, false, false},
	} {
		if Takes(c.f, shared) != c.shared || Takes(c.f, alone) != c.alone {
			t.Errorf("Takes of %+v", c.f)
		}
	}
	w := uint64(0xabcd<<48 | 0xf<<44 | 0x123456789ab)
	for kind, want := range []api.Flush{{}, {Kind: 1, Page: 0x123456789ab000, Space: 0xabcd}, {Kind: 2, Page: 0x123456789ab000}, {Kind: 3, Space: 0xabcd}} {
		if FlushOf(kind, w) != want || FlushOf(kind+4, w) != want || FlushOf(kind+400, w) != want {
			t.Errorf("FlushOf(%d): %+v", kind, FlushOf(kind, w))
		}
	}
	if FlushOf(1, math.MaxUint64).Page != 1<<56-4096 {
		t.Error("FlushOf of the greatest page")
	}
}

func TestBuffer(t *testing.T) { // P9.3, P9.5
	var b Buffer
	if b.Len() != 0 || len(b.Entries()) != 0 || !b.Single() {
		t.Error("the zero buffer has something")
	}
	list := []api.Entry{{Space: 2}, {Space: 1, Page: 0x3000}, {Space: 1, Page: 0x2000, First: 2, Last: 9}, {Space: 1, Page: 0x2000, First: 3}, {Space: 1, Page: 0x2000, First: 2, Last: 8}, {Space: -1}}
	var made []Buffer
	for _, e := range slices.Concat(list, list) {
		b = b.With(e)
		made = append(made, b)
	}
	want := []api.Entry{list[5], list[4], list[2], list[3], list[1], list[0]}
	if !slices.Equal(b.Entries(), want) || b.Len() != 6 {
		t.Errorf("Entries: %v", b.Entries())
	}
	if made[0].Len() != 1 || made[1].Len() != 2 || !made[0].Has(list[0]) || made[0].Has(list[1]) {
		t.Error("With changed its buffer")
	}
	got := b.Entries()
	got[0].Space = 77
	if !slices.Equal(b.Entries(), want) {
		t.Error("Entries shares")
	}
	c := b.Without(list[3]).Without(list[3]).Without(api.Entry{Space: 9})
	if c.Len() != 5 || c.Has(list[3]) || !b.Has(list[3]) {
		t.Error("Without")
	}
	if s := b.Serving(5, 0x2004); !slices.Equal(s, []api.Entry{list[4], list[2], list[3]}) {
		t.Errorf("Serving: %v", s)
	}
	for kind := range 5 {
		for _, p := range []uint64{0, 0x2000, 0x3000} {
			f := api.Flush{Kind: kind, Page: p, Space: 1}
			d := b.Drop(f)
			for _, e := range list {
				if d.Has(e) == Takes(f, e) {
					t.Errorf("Drop of %+v and %+v", f, e)
				}
			}
		}
	}
	if b.Len() != 6 {
		t.Error("Drop changed its buffer")
	}
}

func TestSingle(t *testing.T) { // P9.4
	for _, c := range []struct {
		a, b api.Entry
		want bool
	}{
		{fill(t, 1, 0x1000, table, page), fill(t, 1, 0x2000, table, page), true},
		{fill(t, 1, 0x1000, table, page), fill(t, 1, 0x1000, table, page+0x1000), false},
		{fill(t, 1, 0x1000, table, page), fill(t, 2, 0x1000, table, page), false},
		{fill(t, 1, 0x1000, table, spaced), fill(t, 2, 0x1000, table, spaced), true},
		{fill(t, 1, 0x1000, table, spaced), fill(t, 2, 0x1000, table, page), false},
		{fill(t, 2, 0x1000, table, spaced), fill(t, 1, 0x1000, table, page), false},
		{fill(t, 1, 0x201000, table, page), fill(t, 1, 0x200000, block, 0), false},
		{fill(t, 1, 0x201000, table, spaced), fill(t, 2, 0x200000, mine, 0), true},
		{fill(t, 1, 0x401000, table, page), fill(t, 1, 0x200000, block, 0), true},
		{fill(t, 1, 0, block, 0), fill(t, 1, 0x200000, block, 0), true},
		{fill(t, 1, 0, block, 0), fill(t, 1, 0, 0x200401, 0), false},
	} {
		if got := (Buffer{}).With(c.a).With(c.b).Single(); got != c.want {
			t.Errorf("Single of %+v and %+v", c.a, c.b)
		}
	}
}

func TestFollows(t *testing.T) { // P9.6
	for _, x := range [][2]uint64{{table, page}, {table, spaced}, {block, 0}, {mine, 0}} {
		for _, va := range []uint64{0, 0x1010, 0x3ffffff8} {
			for _, space := range []int{0, 1, 65535} {
				e := fill(t, space, va, x[0], x[1])
				f := FlushOf(api.TlbiVA, uint64(space)<<48|va>>12)
				if !Serves(e, space, va) || !Takes(f, e) {
					t.Errorf("%+v for %d %x", e, space, va)
				}
			}
		}
	}
}
