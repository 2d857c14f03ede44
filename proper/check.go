package proper

import (
	"granule/api"
	"granule/cond"
	"granule/isa"
	"granule/litmus"
	"granule/regs"
	"granule/store"
)

// maxSpace is the greatest number of a space.
const maxSpace = 65535

// place: of places the one with a number; 0: there is none.
func place(list []int, n int) int {
	if n < 0 || n >= len(list) {
		return 0
	}
	return list[n]
}

// problem: an error at a place; none, if there is no error.
func problem(e api.Errno, at int) api.Problem {
	if e == api.OK {
		return api.Problem{}
	}
	return api.Problem{Code: e, At: at}
}

// Check: may a test be that was read? Its first fault.
func Check(s litmus.Source) api.Problem {
	if p := checkTables(s); p.Code != api.OK {
		return p
	}
	if p := checkCells(s); p.Code != api.OK {
		return p
	}
	n := len(s.Test.Cores)
	if n == 0 || n > api.MaxCores {
		return problem(api.ErrCores, place(s.Places.Cores, api.MaxCores))
	}
	for i := range s.Test.Cores {
		if p := checkCore(s, i); p.Code != api.OK {
			return p
		}
	}
	if Events(s.Test) > api.MaxActs {
		return problem(api.ErrEvents, place(s.Places.Cores, 0))
	}
	return problem(cond.Right(s.Test.Cond, n), s.Places.Cond)
}

// base: may a table begin there?
func base(a uint64) bool { return a%(1<<api.PageBits) == 0 }

// checkTables: the first fault of the tables.
func checkTables(s litmus.Source) api.Problem {
	seen := map[uint64]int{}
	for i, a := range s.Tables {
		at := place(s.Places.Tables, i)
		if !base(a) || a >= 1<<api.PABits {
			return problem(api.ErrBase, at)
		}
		if seen[a] > 0 {
			return problem(api.ErrOverlap, at)
		}
		seen[a]++
	}
	return api.Problem{}
}

// checkCells: the first fault of the cells.
func checkCells(s litmus.Source) api.Problem {
	const most = api.MaxCells - api.MaxActs
	if len(s.Test.Cells) > most {
		return problem(api.ErrLong, place(s.Places.Cells, most))
	}
	seen := map[uint64]int{}
	for i, c := range s.Test.Cells {
		at := place(s.Places.Cells, i)
		if e := store.Check(c.Addr); e != api.OK {
			return problem(e, at)
		}
		if seen[c.Addr] > 0 {
			return problem(api.ErrTwice, at)
		}
		seen[c.Addr]++
	}
	return api.Problem{}
}

// declared: is an address that of one of the tables?
func declared(tables []uint64, a uint64) bool {
	for _, x := range tables {
		if x == a {
			return true
		}
	}
	return false
}

// checkCore: the first fault of a core.
func checkCore(s litmus.Source, i int) api.Problem {
	c, at := s.Test.Cores[i], place(s.Places.Cores, i)
	var places []int
	if i < len(s.Places.Instrs) {
		places = s.Places.Instrs[i]
	}
	behind := places[min(len(c.Code), len(places)):]
	switch {
	case !base(c.Table):
		return problem(api.ErrBase, at)
	case !declared(s.Tables, c.Table):
		return problem(api.ErrNone, at)
	case c.Space < 0 || c.Space > maxSpace:
		return problem(api.ErrRange, at)
	case len(c.Code) > api.MaxInstrs:
		return problem(api.ErrInstrs, place(places, api.MaxInstrs))
	case len(c.Handler) > api.MaxInstrs:
		return problem(api.ErrInstrs, place(behind, api.MaxInstrs))
	}
	if p := checkCode(c.Code, places, false); p.Code != api.OK {
		return p
	}
	return checkCode(c.Handler, behind, true)
}

// checkCode: the first fault of code, or of a handler's.
func checkCode(code []api.Instr, places []int, handler bool) api.Problem {
	for i, x := range code {
		if e := checkInstr(x, len(code)-i, handler); e != api.OK {
			return problem(e, place(places, i))
		}
	}
	return api.Problem{}
}

// checkInstr: what is wrong with an instruction, behind which the code ends so many further.
func checkInstr(x api.Instr, end int, handler bool) api.Errno {
	if e := isa.Right(x); e != api.OK {
		return e
	}
	if x.Op == api.Eret && !handler {
		return api.ErrField
	}
	if x.Op == api.B || regs.Branch(x) {
		if x.Imm < 1 {
			return api.ErrBackward
		}
		if x.Imm > end {
			return api.ErrRange
		}
	}
	return api.OK
}

// events: how many an instruction can have, of so many cores.
func events(x api.Instr, cores int) int {
	switch {
	case regs.Access(x):
		return 3
	case x.Op == api.Tlbi && x.Kind < api.TlbiHere:
		return 1 + cores
	case x.Op == api.Tlbi:
		return 2
	}
	return 0
}

// sum: how many events code can have, and how many accesses it has.
func sum(code []api.Instr, cores int) (int, int) {
	n, accesses := 0, 0
	for _, x := range code {
		n += events(x, cores)
		if regs.Access(x) {
			accesses++
		}
	}
	return n, accesses
}

// Events: the most events that a test can have.
func Events(t api.Test) int {
	all := 0
	for _, c := range t.Cores {
		n, accesses := sum(c.Code, len(t.Cores))
		once, _ := sum(c.Handler, len(t.Cores))
		all += n + accesses*once
	}
	return all
}
