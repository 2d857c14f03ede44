package trace

import (
	"slices"

	"granule/api"
	"granule/regs"
	"granule/tlb"
	"granule/walk"
)

// run is a core at one of its instructions: the window up to there, its registers, of each of them and of the flag whether it is known and on which loads it hangs, and how many accesses and branches there were.
type run struct {
	Window
	core     api.Core
	got      []Got
	guesses  []bool
	file     regs.File
	known    [regs.Flag + 1]bool
	hang     [regs.Flag + 1][]int
	pc       int
	handler  bool
	over     bool // a fault leads nowhere
	accesses int
	branches int
}

// step: does an instruction.
func (r *run) step(x api.Instr) {
	from := regs.Data(x)
	r.Steps = append(r.Steps, Step{Instr: x, PC: r.pc, Handler: r.handler, Data: r.loads(from)})
	s := &r.Steps[len(r.Steps)-1]
	switch {
	case regs.Access(x):
		r.access(s, r.told(from))
	case regs.Branch(x):
		r.branch(s, r.told(from))
	case x.Op == api.Tlbi:
		if r.told(from) {
			s.Ready, s.Value = true, r.file.Value(x)
			s.Flush = tlb.FlushOf(x.Kind, s.Value)
		}
		r.pc++
	case x.Op == api.Eret:
		r.pc, r.handler = int(r.file.Sys[api.Elr]), false
	default:
		r.set(x, from)
		r.pc = regs.Next(r.pc, x, x.Op == api.B)
	}
}

// held: is a number that of a register, or of the flag?
func held(n int) bool { return n >= 0 && n <= regs.Flag }

// told: are registers known?
func (r *run) told(list []int) bool {
	for _, n := range list {
		if held(n) && !r.known[n] {
			return false
		}
	}
	return true
}

// loads: the loads that registers hang on, rising, each once.
func (r *run) loads(list []int) []int {
	var out []int
	for _, n := range list {
		if held(n) {
			out = append(out, r.hang[n]...)
		}
	}
	if len(list) > 1 {
		slices.Sort(out)
		out = slices.Compact(out)
	}
	return out
}

// learn: is a register known now, and on which loads does it hang?
func (r *run) learn(n int, known bool, hang []int) {
	if held(n) {
		r.known[n], r.hang[n] = known, hang
	}
}

// set: what an instruction does with the registers alone, from some of them. One that isn't known is kept 0.
func (r *run) set(x api.Instr, from []int) {
	sets := regs.Sets(x)
	if len(sets) == 0 {
		return
	}
	known, hang := r.told(from), r.loads(from)
	r.file.Do(x)
	for _, n := range sets {
		r.learn(n, known, hang)
		if !known {
			r.file.Set(n, 0)
		}
	}
}

// access: a load or a store, with what is known of it; is what it hands over told?
func (r *run) access(s *Step, told bool) {
	var got Got
	if r.accesses < len(r.got) {
		got = r.got[r.accesses]
	}
	r.accesses++
	at := regs.Address(s.Instr)
	s.Address = r.loads(at)
	if r.told(at) {
		s.Placed, s.VA = true, r.file.Where(s.Instr)
		s.bind(got)
	}
	if regs.Store(s.Instr) && told {
		s.Ready, s.Value = true, r.file.Value(s.Instr)
	}
	switch {
	case !s.Bound:
		r.Open = true
	case s.Faults():
		r.fault(s)
	default:
		if regs.Load(s.Instr) {
			r.load(s, got)
		}
		r.pc++
	}
}

// bind: by which descriptors an access goes, if that is known.
func (s *Step) bind(got Got) {
	write := regs.Store(s.Instr)
	if f := walk.Before(s.VA, write); f.Kind != api.FaultNone {
		s.Bound, s.Fault = true, f
		return
	}
	if !got.Bound {
		return
	}
	s.Bound, s.First, s.Walks = true, got.First, 1
	if _, _, more := walk.First(got.First, s.VA); more {
		s.Last, s.Walks = got.Last, 2
	}
	s.Fault, s.Addr = walk.Through(s.First, s.Last, s.VA, write)
	s.Own = s.Fault.Kind == api.FaultTrans || s.Fault.Kind == api.FaultFlag
}

// load: the register that a load sets.
func (r *run) load(s *Step, got Got) {
	if got.Read {
		s.Ready, s.Value = true, got.Value
	}
	for _, n := range regs.Sets(s.Instr) {
		r.learn(n, s.Ready, []int{len(r.Steps) - 1})
		r.file.Set(n, s.Value)
	}
}

// fault: leads to the handler; out of it to nowhere.
func (r *run) fault(s *Step) {
	r.Faults = append(r.Faults, s.Fault)
	if r.handler {
		r.over = true
		return
	}
	r.file.Sys = [3]uint64{api.Esr: walk.Syndrome(s.Fault), api.Far: s.VA, api.Elr: uint64(s.PC) + 1}
	r.pc, r.handler = 0, true
}

// branch: where it leads, if that is told, else as it is guessed.
func (r *run) branch(s *Step, told bool) {
	guessed, guess := r.branches < len(r.guesses), false
	if guessed {
		guess = r.guesses[r.branches]
	}
	r.branches++
	s.Settled, s.Taken = told, guess
	if s.Settled {
		s.Taken = r.file.Taken(s.Instr)
		s.Wrong = guessed && guess != s.Taken
	}
	r.Open = s.Wrong || !s.Settled && !guessed
	r.pc = regs.Next(r.pc, s.Instr, s.Taken)
}
