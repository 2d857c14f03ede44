// Package rel is layer 1: see shared/doc/01-rel.md.
package rel

import (
	"math/bits"

	"granule/api"
)

// row is what one thing is related to: a bit for each.
type row [api.MaxEvents / 64]uint64

// Rel is a relation over the numbers from 0 on, so many of them. Rows of things that there aren't stay empty, so that rows may be held against one another as a whole.
type Rel struct {
	n    int
	rows [api.MaxEvents]row
}

func (w *row) set(b int)      { w[b/64] |= 1 << (b % 64) }
func (w *row) has(b int) bool { return w[b/64]>>(b%64)&1 == 1 }

// thing: is a number one of the things?
func (r *Rel) thing(a int) bool { return r != nil && a >= 0 && a < r.n }

// New: the empty one over n things.
func New(n int) (*Rel, api.Errno) {
	if n < 0 || n > api.MaxEvents {
		return nil, api.ErrSize
	}
	return &Rel{n: n}, api.OK
}

// Of: with some pairs.
func Of(n int, pairs [][2]int) (*Rel, api.Errno) {
	r, e := New(n)
	if e != api.OK {
		return nil, e
	}
	for _, p := range pairs {
		if e := r.Add(p[0], p[1]); e != api.OK {
			return nil, e
		}
	}
	return r, api.OK
}

// Identity: the pairs of each thing with itself.
func Identity(n int) (*Rel, api.Errno) {
	r, e := New(n)
	if e != api.OK {
		return nil, e
	}
	for a := range n {
		r.rows[a].set(a)
	}
	return r, api.OK
}

// Size: over how many things.
func (r *Rel) Size() int {
	if r == nil {
		return 0
	}
	return r.n
}

// Add: a pair more.
func (r *Rel) Add(a, b int) api.Errno {
	if !r.thing(a) || !r.thing(b) {
		return api.ErrRange
	}
	r.rows[a].set(b)
	return api.OK
}

// Has: is a pair in it?
func (r *Rel) Has(a, b int) bool {
	return r.thing(a) && r.thing(b) && r.rows[a].has(b)
}

// Pairs: all of them, rising.
func (r *Rel) Pairs() [][2]int {
	var list [][2]int
	for a := range r.Size() {
		for b := range r.n {
			if r.rows[a].has(b) {
				list = append(list, [2]int{a, b})
			}
		}
	}
	return list
}

// Count: how many pairs.
func (r *Rel) Count() int {
	sum := 0
	for a := range r.Size() {
		for _, w := range r.rows[a] {
			sum += bits.OnesCount64(w)
		}
	}
	return sum
}

// Copy: one of its own.
func (r *Rel) Copy() *Rel {
	if r == nil {
		return nil
	}
	other := *r
	return &other
}

// Same: are two alike?
func Same(a, b *Rel) bool {
	if a == nil || b == nil {
		return a == b
	}
	if a.n != b.n {
		return false
	}
	for i := range a.n {
		if a.rows[i] != b.rows[i] {
			return false
		}
	}
	return true
}

// merge: two relations, word by word; ErrSize: they haven't as many things.
func merge(a, b *Rel, how func(x, y uint64) uint64) (*Rel, api.Errno) {
	if a == nil || b == nil || a.n != b.n {
		return nil, api.ErrSize
	}
	out := &Rel{n: a.n}
	for i := range a.n {
		out.rows[i] = a.rows[i].with(b.rows[i], how)
	}
	return out, api.OK
}

// with: two rows, word by word.
func (w row) with(other row, how func(x, y uint64) uint64) row {
	for i := range len(w) {
		w[i] = how(w[i], other[i])
	}
	return w
}

func either(x, y uint64) uint64 { return x | y }

// Union: the pairs of either.
func Union(a, b *Rel) (*Rel, api.Errno) { return merge(a, b, either) }

// Inter: the pairs of both.
func Inter(a, b *Rel) (*Rel, api.Errno) {
	return merge(a, b, func(x, y uint64) uint64 { return x & y })
}

// Minus: the pairs of the first alone.
func Minus(a, b *Rel) (*Rel, api.Errno) {
	return merge(a, b, func(x, y uint64) uint64 { return x &^ y })
}

// Then: from a by the first one to something, and by the second one on.
func Then(a, b *Rel) (*Rel, api.Errno) {
	if a == nil || b == nil || a.n != b.n {
		return nil, api.ErrSize
	}
	out := &Rel{n: a.n}
	for x := range a.n {
		for y := range a.n {
			if a.rows[x].has(y) {
				out.rows[x] = out.rows[x].with(b.rows[y], either)
			}
		}
	}
	return out, api.OK
}

// Inverse: the pairs the other way round.
func (r *Rel) Inverse() *Rel {
	if r == nil {
		return nil
	}
	out := &Rel{n: r.n}
	for a := range r.n {
		for b := range r.n {
			if r.rows[a].has(b) {
				out.rows[b].set(a)
			}
		}
	}
	return out
}

// Closure: what can be reached in one step or more.
func (r *Rel) Closure() *Rel {
	out := r.Copy()
	for y := range out.Size() {
		for x := range out.n {
			if out.rows[x].has(y) {
				out.rows[x] = out.rows[x].with(out.rows[y], either)
			}
		}
	}
	return out
}

// Irreflexive: is nothing related to itself?
func (r *Rel) Irreflexive() bool {
	for a := range r.Size() {
		if r.rows[a].has(a) {
			return false
		}
	}
	return true
}

// Acyclic: does nothing lead back to itself?
func (r *Rel) Acyclic() bool {
	return len(r.sorted()) == r.Size()
}

// sorted: the things of Order, up to where nothing more can stand.
func (r *Rel) sorted() []int {
	n := r.Size()
	ahead := make([]int, n)
	for a := range n {
		for b := range n {
			if r.rows[a].has(b) {
				ahead[b]++
			}
		}
	}
	list := make([]int, 0, n)
	for range n {
		a := least(ahead)
		if a < 0 {
			break
		}
		ahead[a] = -1
		list = append(list, a)
		for b := range n {
			if r.rows[a].has(b) {
				ahead[b]--
			}
		}
	}
	return list
}

// least: the first thing that nothing is ahead of any more; -1: there is none.
func least(ahead []int) int {
	for a, k := range ahead {
		if k == 0 {
			return a
		}
	}
	return -1
}

// Order: the things so that each comes ahead of those that it is related to; where there are several the least one first.
func (r *Rel) Order() ([]int, api.Errno) {
	list := r.sorted()
	if len(list) < r.Size() {
		return nil, api.ErrCycle
	}
	return list, api.OK
}

// Cycle: things that lead to one another, the last one back to the first; none: there are none.
func (r *Rel) Cycle() []int {
	reach := r.Closure()
	for a := range r.Size() {
		if reach.rows[a].has(a) {
			return r.round(reach, a)
		}
	}
	return nil
}

// round: the way from a thing that leads back to itself, up to the first thing that comes twice. Each one gone to can still reach a, so that the way goes on.
func (r *Rel) round(reach *Rel, a int) []int {
	var way []int
	var at [api.MaxEvents]int
	for at[a] == 0 {
		way = append(way, a)
		at[a] = len(way)
		a = r.onward(reach, a, way[0])
	}
	return way[at[a]-1:]
}

// onward: a thing that a is related to, and that is the goal or leads to it.
func (r *Rel) onward(reach *Rel, a, goal int) int {
	for b := range r.n {
		if r.rows[a].has(b) && (b == goal || reach.rows[b].has(goal)) {
			return b
		}
	}
	return goal
}

// Within: the pairs from some things to some things.
func (r *Rel) Within(from, to []bool) (*Rel, api.Errno) {
	if r == nil || len(from) != r.n || len(to) != r.n {
		return nil, api.ErrSize
	}
	var mask row
	for b, ok := range to {
		if ok {
			mask.set(b)
		}
	}
	out := &Rel{n: r.n}
	for a, ok := range from {
		if ok {
			out.rows[a] = r.rows[a].with(mask, func(x, y uint64) uint64 { return x & y })
		}
	}
	return out, api.OK
}

// Total: is of any two of some things one related to the other?
func (r *Rel) Total(some []bool) bool {
	var marked []int
	for a, ok := range some {
		if !ok {
			continue
		}
		for _, b := range marked {
			if !r.Has(a, b) && !r.Has(b, a) {
				return false
			}
		}
		marked = append(marked, a)
	}
	return true
}
