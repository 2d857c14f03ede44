package machine

import (
	"granule/api"
)

// text puts numbers together, so that unlike rows of numbers make unlike texts.
type text []byte

// num: seven bits a byte, the lowest ones first; the last byte of a number has no mark.
func (b *text) num(v uint64) {
	for v >= 0x80 {
		*b = append(*b, byte(v)|0x80)
		v >>= 7
	}
	*b = append(*b, byte(v))
}

func (b *text) int(n int) { b.num(uint64(n)) }

func (b *text) bit(is bool) {
	if is {
		b.int(1)
	} else {
		b.int(0)
	}
}

// Key: a text that states which go on alike have in common.
func Key(s State) string {
	b := make(text, 0, 256)
	b.int(len(s.Cores))
	for i := range s.Cores {
		b.core(&s.Cores[i])
	}
	return string(append(b, s.Memory.Key()...))
}

// core: all that is known of a core.
func (b *text) core(c *Core) {
	b.int(c.Limit)
	b.int(len(c.Guesses))
	for _, g := range c.Guesses {
		b.bit(g)
	}
	b.int(len(c.Got))
	for _, g := range c.Got {
		b.bit(g.Bound)
		b.bit(g.Read)
		b.num(g.First)
		b.num(g.Last)
		b.num(g.Value)
	}
	b.int(len(c.Own))
	for _, o := range c.Own {
		b.bit(o.Open)
		b.num(o.First)
	}
	b.int(len(c.Acted))
	for _, a := range c.Acted {
		b.bit(a)
	}
	b.int(len(c.Left))
	for _, list := range c.Left {
		b.int(len(list))
		for _, n := range list {
			b.int(n)
		}
	}
	b.buffer(c.Buffer.Entries())
	b.int(len(c.Walks))
	for _, w := range c.Walks {
		b.num(w.VA)
		b.num(w.First)
		b.since(w.Since)
	}
}

// buffer: a buffer's entries.
func (b *text) buffer(list []api.Entry) {
	b.int(len(list))
	for _, e := range list {
		b.int(e.Space)
		b.num(e.Page)
		b.num(e.First)
		b.num(e.Last)
	}
}

// since: invalidations that have come to a walk.
func (b *text) since(list []api.Flush) {
	b.int(len(list))
	for _, f := range list {
		b.int(f.Kind)
		b.num(f.Page)
		b.int(f.Space)
	}
}
