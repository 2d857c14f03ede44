package tool

import (
	"testing"

	"granule/api"
	"granule/axiom"
	"granule/bbm"
	"granule/cond"
	"granule/diy"
	"granule/enum"
	"granule/explore"
	"granule/linear"
	"granule/litmus"
	"granule/machine"
	"granule/order"
	"granule/proper"
	"granule/trace"
)

// odd are tests that no check lets be.
func odd() []api.Test {
	numbers := []int{-1 << 63, -7, 0, 1, 5, 31, 32, 99, 1<<63 - 1}
	list := []api.Test{{}, {Cores: make([]api.Core, 6)}, {Cells: []api.Cell{{Addr: 3}, {Addr: 1 << 40, Value: 1}}, Cores: make([]api.Core, 1)}}
	for i, n := range numbers {
		m := numbers[(i*4+1)%len(numbers)]
		var code []api.Instr
		for op := -1; op < 26; op++ {
			code = append(code, api.Instr{Op: op, D: n, N: m, M: n, Imm: m, Kind: n})
		}
		core := api.Core{Regs: make([]uint64, i*8), Space: n, Table: uint64(m), Code: code, Handler: code[i:]}
		list = append(list, api.Test{Cells: []api.Cell{{Addr: uint64(m), Value: 0x401}}, Cores: []api.Core{core}})
		for op := api.Nop; op <= api.Mrs; op++ {
			x := api.Instr{Op: op, D: n, Imm: m, Kind: m}
			list = append(list, api.Test{Cells: []api.Cell{{Value: 0x401}}, Cores: []api.Core{{Code: []api.Instr{x, x}, Handler: []api.Instr{x}}, {Code: []api.Instr{x}}}})
		}
	}
	loop := []api.Instr{{Op: api.Eret}, {Op: api.B, Imm: -1}, {Op: api.Ldr, Imm: 8}}
	return append(list, api.Test{Cores: []api.Core{{Code: loop, Handler: loop}}}, api.Test{Cores: []api.Core{{Code: loop[1:], Handler: loop[:2]}}})
}

func TestOdd(t *testing.T) { // P1: nothing panics, all ends
	picks := []api.Pick{{Kind: 1}, {Kind: 2}, {Kind: 3}, {Kind: 4}, {Kind: 5}, {Kind: 5}, {Kind: 6}, {Kind: 1, Arg: 1}, {Kind: 7}, {Kind: 8}, {Kind: 6, Core: 1, Step: -1, Arg: 1 << 62}, {Kind: 77, Core: -1}}
	for _, x := range odd() {
		s := litmus.Source{Test: x, Tables: []uint64{0, 1}}
		proper.Check(s)
		proper.Print(s)
		proper.Events(x)
		proper.Memory(x)
		answers := make([][]trace.Answer, len(x.Cores))
		for i, c := range x.Cores {
			answers[i] = make([]trace.Answer, 2)
			w := trace.Run(c, answers[i])
			for a := range min(len(w.Steps), 9) {
				order.Latest(w.Steps, a)
				for b := range min(len(w.Steps), 9) {
					order.Before(w.Steps, a, b)
				}
			}
		}
		ends, _ := axiom.Runs(x, answers)
		axiom.List(x, ends)
		for _, c := range []axiom.Candidate{{}, {Answers: answers}, {Answers: answers, From: []int{-1, 9}, Order: []int{-3}, After: []bool{true}}} {
			axiom.Check(x, c)
			axiom.Outcome(x, c)
			linear.Picks(x, c)
			bbm.Stale(x, c)
			bbm.First(s, &axiom.Graph{}, c)
		}
		end := machine.Run(x, picks)
		machine.Key(end)
		machine.Final(x, end)
		machine.Outcome(x, end)
		machine.Final(x, machine.State{})
		explore.Picks(x, end, []int{-1, 1 << 62})
		linear.Observe(x, picks)
		bbm.Single(x, picks)
		explore.Explore(x, 20)
		enum.Outcomes(x, 20)
		enum.Each(x, 20, nil)
		bbm.Kept(s, 20)
		cond.Right(x.Cond, -1)
	}
	diy.Test("", diy.Cycle{Links: make([]diy.Link, 2), Core: []int{0, 9}, Place: []int{0, 0}, Value: []int{0, 0}, Asked: []bool{true, true}})
	diy.Show([]diy.Link{{Kind: 1 << 62}})
	diy.Make([]diy.Link{{Kind: -5}})
}
