package cond

import (
	"granule/api"
	"granule/asm"
	"granule/field"
	"granule/lex"
)

// The signs between parts.
const (
	signAnd = `/\`
	signOr  = `\/`
)

// reader goes along tokens, and reckons the parts that count. It knows by itself whether it has failed, as the reader of tokens may have had a problem ahead of it.
type reader struct {
	*lex.Reader
	count  int
	failed bool
}

// stop: a fault at the next token; nothing is read behind it.
func (r *reader) stop(e api.Errno) {
	if !r.failed {
		r.failed = true
		r.Fail(e)
	}
}

// counted: one part more; the next token is at fault, if there are too many.
func (r *reader) counted() {
	r.count++
	if r.count > api.MaxCond {
		r.stop(api.ErrCond)
	}
}

// sign: the next token is this sign.
func (r *reader) sign(text string) {
	if !r.failed && !r.Is(api.Sign, text) {
		r.stop(api.ErrSyntax)
	}
}

// between: is a sign between parts next?
func (r *reader) between(text string) bool {
	if r.failed || !r.Is(api.Sign, text) {
		return false
	}
	r.counted()
	return true
}

// below: the next token's number, which is below a bound, if there is one (0: there is none).
func (r *reader) below(most uint64) uint64 {
	if r.failed {
		return 0
	}
	x := r.Peek()
	v, e := field.Parse(x.Text)
	switch {
	case x.Kind != api.Number || e != api.OK:
		r.stop(api.ErrSyntax)
	case most > 0 && v >= most:
		r.stop(api.ErrRange)
	default:
		r.Next()
		return v
	}
	return 0
}

// value: = and a number.
func (r *reader) value() uint64 {
	r.sign("=")
	return r.below(0)
}

// register: the name of a register that may hold something.
func (r *reader) register() int {
	if r.failed {
		return 0
	}
	x := r.Peek()
	n, ok := asm.NumberOf(x.Text)
	if x.Kind != api.Word || !ok || n >= api.Regs {
		r.stop(api.ErrSyntax)
		return 0
	}
	r.Next()
	return n
}

// or: ands, from the left.
func (r *reader) or() api.Cond {
	c := r.and()
	for r.between(signOr) {
		c = api.Cond{Kind: api.CondOr, Args: []api.Cond{c, r.and()}}
	}
	return c
}

// and: parts, from the left.
func (r *reader) and() api.Cond {
	c := r.part()
	for r.between(signAnd) {
		c = api.Cond{Kind: api.CondAnd, Args: []api.Cond{c, r.part()}}
	}
	return c
}

// part: brackets count for nothing; all else that begins a part, or should, does.
func (r *reader) part() api.Cond {
	if r.failed {
		return api.Cond{}
	}
	if r.Is(api.Sign, "(") {
		c := r.or()
		r.sign(")")
		return c
	}
	r.counted()
	switch {
	case r.failed:
		return api.Cond{}
	case r.Is(api.Sign, "~"):
		return api.Cond{Kind: api.CondNot, Args: []api.Cond{r.part()}}
	case r.Is(api.Word, "true"):
		return api.Cond{Kind: api.CondTrue}
	}
	return r.leaf()
}

// leaf: what is asked of a register, a cell, or a core's faults.
func (r *reader) leaf() api.Cond {
	var c api.Cond
	switch {
	case r.Is(api.Word, "faults"):
		c.Kind = api.CondFlt
		c.Core = int(r.below(api.MaxCores))
	case r.Is(api.Sign, "["):
		c.Kind = api.CondCell
		c.Addr = r.below(0)
		r.sign("]")
	default:
		c.Kind = api.CondReg
		c.Core = int(r.below(api.MaxCores))
		r.sign(":")
		c.Reg = r.register()
	}
	c.Value = r.value()
	return c
}

// Parse: the condition that tokens are, up to the line's end; its fault, in the reader.
func Parse(r *lex.Reader) api.Cond {
	if r == nil {
		return api.Cond{}
	}
	own := &reader{Reader: r}
	c := own.or()
	if !own.failed && own.Peek().Kind != api.Line {
		own.stop(api.ErrSyntax)
	}
	if own.failed {
		return api.Cond{}
	}
	return c
}
