package enum

import (
	"testing"

	"granule/api"
	"granule/axiom"
	"granule/sample"
	"granule/trace"
)

// brute: how many candidates are consistent of all that there can be, but for the order of writes to unlike cells; false: there are too many.
func brute(test api.Test, runs [][][]trace.Answer, most int) (int, bool) {
	found, looked := 0, 0
	var c axiom.Candidate
	var combine func(core int) bool
	combine = func(core int) bool {
		if core < len(runs) {
			for _, list := range runs[core] {
				c.Answers = append(c.Answers[:core], list)
				if !combine(core + 1) {
					return false
				}
			}
			return true
		}
		ends, _ := axiom.Runs(test, c.Answers)
		g := axiom.List(test, ends)
		var writes []int
		for w, v := range g.Events {
			if v.Kind == api.EvWrite {
				writes = append(writes, w)
			}
		}
		c.From, c.After, c.Order = make([]int, len(g.Events)), make([]bool, len(g.Pairs)), nil
		var after func(n int) bool
		after = func(n int) bool {
			if n < len(c.After) {
				for _, is := range []bool{false, true} {
					c.After[n] = is
					if !after(n + 1) {
						return false
					}
				}
				return true
			}
			looked++
			if ok, e := axiom.Check(test, c); e == api.OK && ok {
				found++
			}
			return looked < most
		}
		var from func(n int) bool
		from = func(n int) bool {
			if n == len(g.Events) {
				return after(0)
			}
			c.From[n] = -1
			if !from(n + 1) {
				return false
			}
			for _, w := range writes {
				if g.Events[n].Kind <= api.EvRead && g.Events[w].Addr == g.Events[n].Addr {
					c.From[n] = w
					if !from(n + 1) {
						return false
					}
				}
			}
			c.From[n] = -1
			return true
		}
		var order func() bool
		order = func() bool {
			if len(c.Order) == len(writes) {
				return from(0)
			}
			for _, w := range writes {
				ok := true
				for i, x := range c.Order { // writes to unlike cells rise, where they follow one another
					ok = ok && x != w && (i < len(c.Order)-1 || g.Events[x].Addr <= g.Events[w].Addr)
				}
				if !ok {
					continue
				}
				c.Order = append(c.Order, w)
				on := order()
				c.Order = c.Order[:len(c.Order)-1]
				if !on {
					return false
				}
			}
			return true
		}
		return order()
	}
	return found, combine(0)
}

func TestBrute(t *testing.T) { // P21.2: each consistent candidate
	done := 0
	for seed := range uint64(300) {
		test := read(t, sample.Text(seed+70000, 1+int(seed%2), 1+int(seed%3)))
		runs, _, e := Runs(test, 2000)
		if e != api.OK {
			continue
		}
		want, ok := brute(test, runs, 3000)
		if !ok {
			continue
		}
		done++
		n := 0
		if e := Each(test, api.MaxChoices, func(axiom.Candidate) bool { n++; return true }); e != api.OK || n != want {
			t.Fatalf("seed %d: %d candidates, not %d, %d", seed, n, want, e)
		}
	}
	t.Logf("%d held against all candidates", done)
	if done < 50 {
		t.Errorf("only %d held against all candidates", done)
	}
}
