package rel

import (
	"slices"
	"testing"

	"granule/api"
)

func of(t *testing.T, n int, pairs ...[2]int) *Rel {
	t.Helper()
	r, e := Of(n, pairs)
	if e != api.OK {
		t.Fatalf("Of %d: %d", n, e)
	}
	return r
}

// some: relations of different sizes and densities, the same ones at each call.
func some() []*Rel {
	var list []*Rel
	seed := uint32(1)
	for _, n := range []int{0, 1, 2, 3, 7, 63, 64, 65, 128} {
		for _, part := range []uint32{1, 2, 30, 400} {
			r, _ := New(n)
			for a := range n {
				for b := range n {
					seed = seed*1664525 + 1013904223
					if seed>>8%part == 0 {
						r.Add(a, b)
					}
				}
			}
			list = append(list, r)
		}
	}
	return list
}

func TestMade(t *testing.T) { // P1.1
	for _, n := range []int{-1, 129, 1 << 40, -1 << 62} {
		if r, e := New(n); r != nil || e != api.ErrSize {
			t.Errorf("New %d: %d", n, e)
		}
		if r, e := Of(n, [][2]int{{9, 9}}); r != nil || e != api.ErrSize {
			t.Errorf("Of %d: %d", n, e)
		}
		if r, e := Identity(n); r != nil || e != api.ErrSize {
			t.Errorf("Identity %d: %d", n, e)
		}
	}
	for _, n := range []int{0, 1, 128} {
		r, e := New(n)
		if e != api.OK || r.Size() != n || r.Count() != 0 {
			t.Errorf("New %d: %d", n, e)
		}
		i, e := Identity(n)
		if e != api.OK || i.Count() != n {
			t.Errorf("Identity %d: %d", n, e)
		}
		for a := range n {
			if !i.Has(a, a) {
				t.Errorf("Identity %d: not %d", n, a)
			}
		}
	}
	for _, p := range [][2]int{{0, 3}, {3, 0}, {-1, 0}, {0, -1}} {
		if r, e := Of(3, [][2]int{{0, 1}, p}); r != nil || e != api.ErrRange {
			t.Errorf("Of %v: %d", p, e)
		}
	}
}

func TestPairs(t *testing.T) { // P1.2
	r := of(t, 128, [2]int{127, 0}, [2]int{0, 127}, [2]int{0, 64}, [2]int{0, 127})
	want := [][2]int{{0, 64}, {0, 127}, {127, 0}}
	if !slices.Equal(r.Pairs(), want) || r.Count() != 3 {
		t.Errorf("Pairs: %v", r.Pairs())
	}
	for _, p := range [][2]int{{128, 0}, {0, 128}, {-1, 0}, {0, -1}} {
		if e := r.Add(p[0], p[1]); e != api.ErrRange || r.Has(p[0], p[1]) {
			t.Errorf("Add %v: %d", p, e)
		}
	}
	if r.Count() != 3 {
		t.Error("a refused Add changed it")
	}
	c := r.Copy()
	if !Same(r, c) {
		t.Error("Copy isn't the same")
	}
	c.Add(5, 5)
	if r.Has(5, 5) || Same(r, c) {
		t.Error("Copy shares")
	}
	a, b := of(t, 2), of(t, 3)
	if Same(a, b) {
		t.Error("Same of 2 and 3 things")
	}
}

func TestMerged(t *testing.T) { // P1.3
	a := of(t, 3, [2]int{0, 1}, [2]int{1, 2})
	b := of(t, 3, [2]int{1, 2}, [2]int{2, 0})
	for name, x := range map[string]struct {
		how  func(a, b *Rel) (*Rel, api.Errno)
		want [][2]int
	}{
		"Union": {Union, [][2]int{{0, 1}, {1, 2}, {2, 0}}},
		"Inter": {Inter, [][2]int{{1, 2}}},
		"Minus": {Minus, [][2]int{{0, 1}}},
		"Then":  {Then, [][2]int{{0, 2}, {1, 0}}},
	} {
		r, e := x.how(a, b)
		if e != api.OK || !slices.Equal(r.Pairs(), x.want) {
			t.Errorf("%s: %v, %d", name, r.Pairs(), e)
		}
		if r, e := x.how(a, of(t, 4)); r != nil || e != api.ErrSize {
			t.Errorf("%s of unlike sizes: %d", name, e)
		}
	}
	if a.Count() != 2 || b.Count() != 2 {
		t.Error("merging changed an argument")
	}
	if !slices.Equal(a.Inverse().Pairs(), [][2]int{{1, 0}, {2, 1}}) {
		t.Errorf("Inverse: %v", a.Inverse().Pairs())
	}
	if !slices.Equal(a.Closure().Pairs(), [][2]int{{0, 1}, {0, 2}, {1, 2}}) {
		t.Errorf("Closure: %v", a.Closure().Pairs())
	}
	w, e := of(t, 3, [2]int{0, 1}, [2]int{1, 1}, [2]int{1, 2}).Within([]bool{false, true, true}, []bool{true, true, false})
	if e != api.OK || !slices.Equal(w.Pairs(), [][2]int{{1, 1}}) {
		t.Errorf("Within: %v, %d", w.Pairs(), e)
	}
	for _, n := range []int{0, 2, 4} {
		if w, e := a.Within(make([]bool, n), make([]bool, 3)); w != nil || e != api.ErrSize {
			t.Errorf("Within of %d marks: %d", n, e)
		}
		if w, e := a.Within(make([]bool, 3), make([]bool, n)); w != nil || e != api.ErrSize {
			t.Errorf("Within to %d marks: %d", n, e)
		}
	}
}

func TestOrder(t *testing.T) { // P1.4
	r := of(t, 5, [2]int{4, 0}, [2]int{3, 1})
	l, e := r.Order()
	if e != api.OK || !slices.Equal(l, []int{2, 3, 1, 4, 0}) {
		t.Errorf("Order: %v, %d", l, e)
	}
	loop := of(t, 2, [2]int{1, 1})
	if loop.Irreflexive() || loop.Acyclic() {
		t.Error("a thing related to itself")
	}
	if l, e := loop.Order(); l != nil || e != api.ErrCycle {
		t.Errorf("Order: %v, %d", l, e)
	}
	two := of(t, 2, [2]int{0, 1}, [2]int{1, 0})
	if !two.Irreflexive() || two.Acyclic() {
		t.Error("two things that lead to one another")
	}
	for _, r := range some() {
		checkOrder(t, r)
		checkCycle(t, r)
	}
}

func checkOrder(t *testing.T, r *Rel) {
	t.Helper()
	l, e := r.Order()
	if (e == api.OK) != r.Closure().Irreflexive() || r.Acyclic() != (e == api.OK) {
		t.Errorf("Order of %d: %d", r.Size(), e)
	}
	if e == api.OK && len(l) != r.Size() {
		t.Errorf("Order: %v", l)
	}
	for i := range l {
		for j := range i {
			if r.Has(l[i], l[j]) {
				t.Errorf("Order: %d behind %d", l[i], l[j])
			}
		}
	}
}

func checkCycle(t *testing.T, r *Rel) {
	t.Helper()
	c := r.Cycle()
	if (len(c) == 0) != r.Acyclic() {
		t.Errorf("Cycle of %d: %v", r.Size(), c)
	}
	for i, a := range c {
		if !r.Has(a, c[(i+1)%len(c)]) || slices.Contains(c[:i], a) {
			t.Errorf("Cycle: %v", c)
		}
	}
}

func TestTotal(t *testing.T) { // P1.4
	r := of(t, 4, [2]int{0, 1}, [2]int{2, 1}, [2]int{0, 2})
	for _, x := range []struct {
		some []bool
		want bool
	}{
		{nil, true},
		{[]bool{true, true, true}, true},
		{[]bool{true, true, true, true}, false},
		{[]bool{false, false, false, true}, true},
		{[]bool{false, false, false, false, false, true}, true},
		{[]bool{true, false, false, false, false, true}, false},
		{append(make([]bool, 200), true, true), false},
	} {
		if r.Total(x.some) != x.want {
			t.Errorf("Total of %v", x.some)
		}
	}
}

func TestFollows(t *testing.T) { // P1.5
	list := some()
	for i, r := range list {
		c := r.Closure()
		if !Same(c, c.Closure()) || !Same(r, r.Inverse().Inverse()) {
			t.Errorf("Closure or Inverse of relation %d", i)
		}
		again, _ := Then(c, c)
		if u, _ := Union(c, again); !Same(u, c) {
			t.Errorf("Closure of %d isn't closed", i)
		}
		s := list[i/4*4]
		z := list[i/4*4+1]
		u, _ := Union(r, s)
		left, _ := Then(u, z)
		x, _ := Then(r, z)
		y, _ := Then(s, z)
		right, _ := Union(x, y)
		if !Same(left, right) {
			t.Errorf("Then through Union, %d", i)
		}
	}
}

func TestHandedIn(t *testing.T) { // P1, P2
	pairs := [][2]int{{0, 1}, {1, 2}, {2, 0}}
	r, _ := Of(3, pairs[:2])
	if pairs[2] != [2]int{2, 0} {
		t.Error("Of changed its list")
	}
	pairs[0] = [2]int{2, 2}
	if r.Has(2, 2) || !r.Has(0, 1) {
		t.Error("Of kept its list")
	}
	p := r.Pairs()
	p[0] = [2]int{2, 1}
	if r.Has(2, 1) {
		t.Error("Pairs shares")
	}
	var none *Rel
	none.Add(0, 0)
	none.Pairs()
	none.Inverse()
	none.Closure()
	none.Order()
	none.Cycle()
	none.Within(nil, nil)
	none.Total([]bool{true, true})
	Same(none, r)
	Union(none, r)
	Then(r, none)
}
