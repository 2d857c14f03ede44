package cond

import (
	"math"
	"reflect"
	"strings"
	"testing"

	"granule/api"
	"granule/lex"
)

func read(t *testing.T, s string) (api.Cond, api.Problem) {
	t.Helper()
	list, p := lex.Tokens(lex.Row{Text: s})
	if p.Code != api.OK {
		t.Fatalf("%q: %v", s, p)
	}
	r := lex.Read(list)
	c := Parse(r)
	if r.Bad().Code == api.OK && r.Peek().Kind != api.Line {
		t.Errorf("%q: not at the end", s)
	}
	return c, r.Bad()
}

func reg(core, n int, v uint64) api.Cond {
	return api.Cond{Kind: api.CondReg, Core: core, Reg: n, Value: v}
}

func of(kind int, list ...api.Cond) api.Cond { return api.Cond{Kind: kind, Args: list} }

var (
	yes = api.Cond{Kind: api.CondTrue}
	a   = reg(0, 1, 1)
	b   = api.Cond{Kind: api.CondCell, Addr: 16}
	c   = api.Cond{Kind: api.CondFlt, Core: 3, Value: 2}
)

func texts() map[string]api.Cond {
	and, or, not := api.CondAnd, api.CondOr, api.CondNot
	return map[string]api.Cond{
		`true`:                                 yes,
		`0:X1=0x1 /\ ~[0x10]=0x0`:              of(and, a, of(not, b)),
		`3:X30=0xffffffffffffffff`:             reg(3, 30, math.MaxUint64),
		`faults 3=0x2`:                         c,
		`0:X1=0x1 /\ [0x10]=0x0 /\ true`:       of(and, of(and, a, b), yes),
		`0:X1=0x1 /\ ([0x10]=0x0 /\ true)`:     of(and, a, of(and, b, yes)),
		`0:X1=0x1 \/ [0x10]=0x0 \/ true`:       of(or, of(or, a, b), yes),
		`0:X1=0x1 \/ ([0x10]=0x0 \/ true)`:     of(or, a, of(or, b, yes)),
		`0:X1=0x1 \/ [0x10]=0x0 /\ true`:       of(or, a, of(and, b, yes)),
		`0:X1=0x1 /\ [0x10]=0x0 \/ true`:       of(or, of(and, a, b), yes),
		`(0:X1=0x1 \/ [0x10]=0x0) /\ true`:     of(and, of(or, a, b), yes),
		`true /\ (0:X1=0x1 \/ [0x10]=0x0)`:     of(and, yes, of(or, a, b)),
		`~(0:X1=0x1 \/ true)`:                  of(not, of(or, a, yes)),
		`~(0:X1=0x1 /\ true)`:                  of(not, of(and, a, yes)),
		`~~true`:                               of(not, of(not, yes)),
		`~true /\ ~(faults 3=0x2 /\ true)`:     of(and, of(not, yes), of(not, of(and, c, yes))),
		`true /\ true \/ true /\ true \/ true`: of(or, of(or, of(and, yes, yes), of(and, yes, yes)), yes),
	}
}

func TestPrint(t *testing.T) { // P11.2, P11.5
	for s, x := range texts() {
		if Print(x) != s {
			t.Errorf("Print: %s, not %s", Print(x), s)
		}
		if y, p := read(t, s); !reflect.DeepEqual(x, y) || p.Code != api.OK {
			t.Errorf("Parse(%s): %v, %v", s, y, p)
		}
	}
	for s, want := range map[string]string{"((true))": "true", "(0:X1=1)/\\true": `0:X1=0x1 /\ true`, "faults 0=010": "faults 0=0xa", "~(true)": "~true", "[ 0x8 ] = 9": "[0x8]=0x9"} {
		if x, p := read(t, s); Print(x) != want || p.Code != api.OK {
			t.Errorf("Parse(%s): %s, %v", s, Print(x), p)
		}
	}
	for s, n := range map[string]int{"true": 1, "~true": 2, `true /\ ~true \/ true`: 6} {
		if x, _ := read(t, s); Count(x) != n {
			t.Errorf("Count(%s): %d", s, Count(x))
		}
	}
}

func TestFaults(t *testing.T) { // P11.1
	for s, want := range map[string]api.Problem{
		"":                 {Code: api.ErrSyntax, At: 0},
		"()":               {Code: api.ErrSyntax, At: 1},
		"(true":            {Code: api.ErrSyntax, At: 5},
		"true)":            {Code: api.ErrSyntax, At: 4},
		"true true":        {Code: api.ErrSyntax, At: 5},
		"true /\\":         {Code: api.ErrSyntax, At: 7},
		"true \\/ /\\":     {Code: api.ErrSyntax, At: 8},
		"~":                {Code: api.ErrSyntax, At: 1},
		"x":                {Code: api.ErrSyntax, At: 0},
		"4:X1=1":           {Code: api.ErrRange, At: 0},
		"4":                {Code: api.ErrRange, At: 0},
		"faults 4=1":       {Code: api.ErrRange, At: 7},
		"faults X1=1":      {Code: api.ErrSyntax, At: 7},
		"0:XZR=1":          {Code: api.ErrSyntax, At: 2},
		"0:X31=1":          {Code: api.ErrSyntax, At: 2},
		"0:1=1":            {Code: api.ErrSyntax, At: 2},
		"0 X1=1":           {Code: api.ErrSyntax, At: 2},
		"0:X1":             {Code: api.ErrSyntax, At: 4},
		"0:X1=true":        {Code: api.ErrSyntax, At: 5},
		"[X1]=1":           {Code: api.ErrSyntax, At: 1},
		"[1=1":             {Code: api.ErrSyntax, At: 2},
		"faults 0:1":       {Code: api.ErrSyntax, At: 8},
		"TRUE":             {Code: api.ErrSyntax, At: 0},
		"true , 4:X1=1":    {Code: api.ErrSyntax, At: 5},
		"true /\\ 9:XZR=x": {Code: api.ErrRange, At: 8},
	} {
		if _, p := read(t, s); p != want {
			t.Errorf("Parse(%s): %v", s, p)
		}
	}
}

func TestMany(t *testing.T) { // P11.1: MaxCond
	full := strings.Repeat("~", 63) + "true"
	if x, p := read(t, full); p.Code != api.OK || Count(x) != 64 {
		t.Errorf("64 parts: %v", p)
	}
	ands := "~" + strings.TrimSuffix(strings.Repeat(`true/\`, 32), `/\`)
	for s, at := range map[string]int{
		"~" + full:                       64,
		strings.Repeat("~", 64) + ")":    64,
		strings.Repeat("~", 64) + "9:X1": 64,
		full + "/\\true":                 69,
		full + "/\\":                     69,
		full + "\\/)":                    69,
		strings.Repeat("~", 62) + "true/\\(((true": 71,
		strings.Repeat("~", 64) + "(((":            67,
		ands + `/\true`:                            len(ands) + 2,
	} {
		if _, p := read(t, s); p != (api.Problem{Code: api.ErrCond, At: at}) {
			t.Errorf("Parse(%s): %v, not at %d", s, p, at)
		}
	}
	if _, p := read(t, strings.Repeat("(", 3000)+full+strings.Repeat(")", 3000)); p.Code != api.OK {
		t.Errorf("brackets count: %v", p)
	}
	if _, p := read(t, full+")/\\true"); p != (api.Problem{Code: api.ErrSyntax, At: 67}) {
		t.Errorf("a fault ahead: %v", p)
	}
	if x, p := read(t, ands); p.Code != api.OK || Count(x) != 64 {
		t.Errorf("%d, %v", Count(x), p)
	}
}

func TestOnward(t *testing.T) { // P11.1: from where the reader is
	list, _ := lex.Tokens(lex.Row{Text: "exists true"})
	r := lex.Read(list)
	r.Next()
	if c := Parse(r); c.Kind != api.CondTrue || r.Bad().Code != api.OK {
		t.Errorf("%v, %v", c, r.Bad())
	}
	r = lex.Read(list)
	r.Fault(api.Problem{Code: api.ErrTwice, At: 9})
	r.Next()
	if c := Parse(r); c.Kind != api.CondTrue || r.Bad().Code != api.ErrTwice {
		t.Errorf("behind a problem: %v, %v", c, r.Bad())
	}
	Parse(lex.Read(nil))
	Parse(nil)
}

func TestRight(t *testing.T) { // P11.3
	deep := yes
	for range 63 {
		deep = of(api.CondNot, deep)
	}
	for i, x := range []struct {
		c     api.Cond
		cores int
		want  api.Errno
	}{
		{a, 1, api.OK}, {a, 0, api.ErrNone}, {c, 3, api.ErrNone}, {c, 4, api.OK}, {reg(-1, 0, 0), 4, api.ErrNone}, {a, -5, api.ErrNone}, {b, 0, api.OK}, {yes, -1, api.OK},
		{reg(0, 31, 0), 1, api.ErrRange}, {reg(0, -1, 0), 1, api.ErrRange}, {reg(9, 31, 0), 1, api.ErrRange},
		{api.Cond{}, 1, api.ErrRange}, {api.Cond{Kind: 8}, 1, api.ErrRange}, {api.Cond{Kind: -1, Args: []api.Cond{yes}}, 1, api.ErrRange},
		{of(api.CondNot), 1, api.ErrRange}, {of(api.CondNot, yes, yes), 1, api.ErrRange}, {of(api.CondAnd, yes), 1, api.ErrRange}, {of(api.CondOr, yes, yes, yes), 1, api.ErrRange}, {of(api.CondTrue, yes), 1, api.ErrRange},
		{of(api.CondAnd, reg(7, 0, 0), api.Cond{}), 1, api.ErrNone}, {of(api.CondAnd, api.Cond{}, reg(7, 0, 0)), 1, api.ErrRange}, {of(api.CondAnd, yes, of(api.CondNot, c)), 1, api.ErrNone},
		{deep, 0, api.OK}, {of(api.CondNot, deep), 0, api.ErrCond}, {of(99, deep, api.Cond{}), 0, api.ErrCond},
	} {
		if got := Right(x.c, x.cores); got != x.want {
			t.Errorf("Right %d: %d", i, got)
		}
	}
}

func outcome() api.Outcome {
	return api.Outcome{
		Regs:   [][]uint64{{5, 1}, nil},
		Faults: [][]api.Fault{nil, {{Kind: 3}, {Kind: 4}}},
		Cells:  []api.Cell{{Addr: 8, Value: 7}, {Addr: 16, Value: 3}, {Addr: 8, Value: 9}},
	}
}

func TestHolds(t *testing.T) { // P11.4
	o := outcome()
	for i, x := range []struct {
		c    api.Cond
		want bool
	}{
		{a, true}, {reg(0, 0, 1), false}, {reg(0, 2, 0), false}, {reg(1, 0, 0), false}, {reg(2, 0, 0), false}, {reg(-1, 0, 0), false}, {reg(0, -1, 0), false},
		{api.Cond{Kind: api.CondCell, Addr: 8, Value: 9}, true}, {api.Cond{Kind: api.CondCell, Addr: 8, Value: 7}, false}, {api.Cond{Kind: api.CondCell, Addr: 24}, true}, {b, false},
		{api.Cond{Kind: api.CondFlt, Core: 1, Value: 2}, true}, {api.Cond{Kind: api.CondFlt}, true}, {api.Cond{Kind: api.CondFlt, Core: 2}, false}, {api.Cond{Kind: api.CondFlt, Core: -1}, false}, {api.Cond{Kind: api.CondFlt, Core: 1, Value: 1}, false},
		{yes, true}, {of(api.CondNot, yes), false}, {of(api.CondNot, a, a), false}, {of(api.CondNot), false}, {of(api.CondNot, api.Cond{}), true},
		{of(api.CondAnd, yes, a), true}, {of(api.CondAnd, yes, b), false}, {of(api.CondAnd, yes), false}, {of(api.CondOr, b, a), true}, {of(api.CondOr, b, b), false}, {of(api.CondOr, yes, yes, yes), false},
		{api.Cond{}, false}, {api.Cond{Kind: 8}, false},
	} {
		if Holds(x.c, o) != x.want {
			t.Errorf("Holds %d", i)
		}
	}
}

func TestVerdict(t *testing.T) { // P11.4, P11.6
	list := []api.Outcome{outcome(), {}}
	if !Verdict(a, false, list) || Verdict(a, true, list) || !Verdict(a, true, list[:1]) || Verdict(b, false, list[:1]) || !Verdict(a, true, nil) || Verdict(yes, false, nil) || !Verdict(yes, true, list) {
		t.Error("Verdict")
	}
	for _, x := range texts() {
		for n := range 3 {
			if Verdict(x, true, list[:n]) == Verdict(of(api.CondNot, x), false, list[:n]) {
				t.Errorf("of %s", Print(x))
			}
		}
	}
}

func TestAnything(t *testing.T) { // P1
	for _, x := range []api.Cond{{Kind: api.CondReg, Core: -1, Reg: 99}, of(api.CondAnd), of(api.CondOr, yes), of(api.CondNot, of(77, yes))} {
		Print(x)
		Count(x)
	}
}
