package queue

import (
	"math"
	"slices"
	"testing"

	"granule/api"
)

func made(t *testing.T, room int) *Queue[int] {
	t.Helper()
	q, e := New[int](room)
	if e != api.OK {
		t.Fatalf("New(%d): %d", room, e)
	}
	return q
}

func TestNew(t *testing.T) { // P19.1
	for _, room := range []int{0, -1, api.MaxStates + 1, math.MaxInt, math.MinInt} {
		if q, e := New[string](room); q != nil || e != api.ErrRange {
			t.Errorf("New(%d): %d", room, e)
		}
	}
	if made(t, api.MaxStates).Room() != api.MaxStates {
		t.Error("the greatest room")
	}
	q := made(t, 1)
	if x, ok := q.Take(); ok || x != 0 || q.Len() != 0 || q.Room() != 1 || len(q.Drain()) != 0 {
		t.Error("an empty row")
	}
	if !q.Put(1) || q.Put(2) || q.Len() != 1 {
		t.Error("Put beyond the room")
	}
	if x, ok := q.Take(); x != 1 || !ok || q.Len() != 0 {
		t.Errorf("Take: %d", x)
	}
}

func TestOrder(t *testing.T) { // P19.1, P19.3
	q := made(t, 3)
	var in, out []int
	for i := range 100 {
		if q.Put(i) {
			in = append(in, i)
		}
		if i%3 > 0 {
			if x, ok := q.Take(); ok {
				out = append(out, x)
			}
		}
	}
	out = append(out, q.Drain()...)
	if !slices.Equal(in, out) || q.Len() != 0 {
		t.Errorf("in %v, out %v", in, out)
	}
	if !q.Put(5) || q.Len() != 1 {
		t.Error("Put behind Drain")
	}
}

func TestGrown(t *testing.T) { // P19.2
	q := made(t, 3)
	q.Put(1)
	q.Put(2)
	for _, more := range []int{-1, api.MaxStates - 2, api.MaxStates, api.MaxStates + 1, math.MaxInt, math.MinInt} {
		if g, e := Grown(q, more); g != nil || e != api.ErrRange || q.Len() != 2 {
			t.Errorf("Grown by %d: %d", more, e)
		}
	}
	g, e := Grown(q, 2)
	if e != api.OK || g.Room() != 5 || g.Len() != 2 || q.Len() != 0 || q.Room() != 3 {
		t.Fatalf("Grown: %d", e)
	}
	g.Put(3)
	if got := g.Drain(); !slices.Equal(got, []int{1, 2, 3}) {
		t.Errorf("Grown has %v", got)
	}
	same, e := Grown(made(t, api.MaxStates), 0)
	if e != api.OK || same.Room() != api.MaxStates {
		t.Errorf("Grown by 0: %d", e)
	}
	var none *Queue[int]
	none.Put(1)
	none.Take()
	none.Drain()
	Grown(none, 3)
}
