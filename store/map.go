package store

import (
	"iter"
	"math/bits"
)

// Map has things by numbers, rising. It is a tree of bits, whose shape hangs on the numbers alone, and which is never deeper than a word has bits; what is changed of it is made anew from the root on.
type Map[V any] struct {
	root *node[V]
	n    int
}

// node is a leaf, with a number's thing (then left is nil); or it parts the numbers below it, which are alike above the bit, by that bit.
type node[V any] struct {
	key   uint64
	value V
	bit   int
	left  *node[V]
	right *node[V]
}

// Get: a number's thing; false: there is none.
func (m Map[V]) Get(k uint64) (V, bool) {
	n := m.root
	for n != nil && n.left != nil {
		if k>>n.bit&1 == 0 {
			n = n.left
		} else {
			n = n.right
		}
	}
	if n != nil && n.key == k {
		return n.value, true
	}
	var none V
	return none, false
}

// With: another one, in which a number has a thing.
func (m Map[V]) With(k uint64, v V) Map[V] {
	if _, ok := m.Get(k); !ok {
		m.n++
	}
	m.root = m.root.with(&node[V]{key: k, value: v})
	return m
}

// with: a tree with a leaf more, or another one of its number.
func (n *node[V]) with(leaf *node[V]) *node[V] {
	if n == nil || n.left == nil && n.key == leaf.key {
		return leaf
	}
	apart := n.key ^ leaf.key
	if n.left != nil && apart>>n.bit>>1 == 0 {
		other := *n
		if leaf.key>>n.bit&1 == 0 {
			other.left = n.left.with(leaf)
		} else {
			other.right = n.right.with(leaf)
		}
		return &other
	}
	up := &node[V]{key: leaf.key, bit: bits.Len64(apart) - 1, left: leaf, right: n}
	if leaf.key>>up.bit&1 == 1 {
		up.left, up.right = n, leaf
	}
	return up
}

// Without: another one, in which a number has nothing.
func (m Map[V]) Without(k uint64) Map[V] {
	if _, ok := m.Get(k); !ok {
		return m
	}
	return Map[V]{root: m.root.without(k), n: m.n - 1}
}

// without: a tree without the leaf of a number that it has.
func (n *node[V]) without(k uint64) *node[V] {
	if n.left == nil {
		return nil
	}
	left, right := n.left, n.right
	if k>>n.bit&1 == 0 {
		left = left.without(k)
	} else {
		right = right.without(k)
	}
	if left == nil {
		return right
	}
	if right == nil {
		return left
	}
	return &node[V]{key: n.key, bit: n.bit, left: left, right: right}
}

// Len: how many there are.
func (m Map[V]) Len() int { return m.n }

// Each gives out the numbers, rising, and their things.
func (m Map[V]) Each() iter.Seq2[uint64, V] {
	return func(yield func(uint64, V) bool) { m.root.each(yield) }
}

// each: false: it was told to stop.
func (n *node[V]) each(yield func(uint64, V) bool) bool {
	switch {
	case n == nil:
		return true
	case n.left == nil:
		return yield(n.key, n.value)
	}
	return n.left.each(yield) && n.right.each(yield)
}
