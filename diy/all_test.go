package diy

import (
	"testing"

	"granule/api"
	"granule/cond"
	"granule/enum"
	"granule/explore"
	"granule/proper"
)

// twice: has a core two events at one cell?
func twice(c Cycle) bool {
	for i := range c.Core {
		for j := range i {
			if c.Core[i] == c.Core[j] && c.Place[i] == c.Place[j] {
				return true
			}
		}
	}
	return false
}

// dice are numbers that follow from a first one.
type dice uint64

func (d *dice) below(n int) int {
	*d = *d*6364136223846793005 + 1442695040888963407
	return int(uint64(*d) >> 33 % uint64(n))
}

// some: so many cycles.
func some(many int) [][]Link {
	all := Links()
	var d dice
	var out [][]Link
	for len(out) < many {
		var list []Link
		for range 4 + d.below(5) {
			list = append(list, all[d.below(len(all))])
		}
		if _, e := Make(list); e == api.OK {
			out = append(out, list)
		}
	}
	return out
}

func TestSome(t *testing.T) { // P24.2 to P24.5
	for _, list := range some(400) {
		c, _ := Make(list)
		s := Test("x", c)
		if p := proper.Check(s); p.Code != api.OK {
			t.Fatalf("%s: %v", Show(list), p)
		}
		r, e := explore.Explore(s.Test, api.MaxStates)
		o, f := enum.Outcomes(s.Test, 20000)
		if e != api.OK || f != api.OK || len(o) != len(r.Outcomes) {
			t.Fatalf("%s: %d, %d, %d outcomes and %d", Show(list), e, f, len(r.Outcomes), len(o))
		}
		strong, weak := true, !twice(c)
		for _, l := range list {
			strong = strong && Strong(l)
			weak = weak && (Outer(l) || l.Kind == Po)
		}
		holds := cond.Verdict(s.Test.Cond, false, r.Outcomes)
		if strong && holds || weak && !holds {
			t.Errorf("%s: %t", Show(list), holds)
		}
	}
}
