package lex

import (
	"slices"

	"granule/api"
	"granule/field"
)

// Reader goes along tokens; the first fault stays.
type Reader struct {
	list []api.Token
	at   int
	bad  api.Problem
}

// Read: of a line's tokens.
func Read(list []api.Token) *Reader { return &Reader{list: slices.Clone(list)} }

// Bad: the first fault.
func (r *Reader) Bad() api.Problem { return r.bad }

// Peek: the next token.
func (r *Reader) Peek() api.Token {
	if r.at >= len(r.list) {
		return api.Token{Kind: api.Line}
	}
	return r.list[r.at]
}

// Next: the next token, gone past; a line's end isn't.
func (r *Reader) Next() api.Token {
	x := r.Peek()
	if x.Kind != api.Line {
		r.at++
	}
	return x
}

// Fail: a fault at the next token, if there was none.
func (r *Reader) Fail(e api.Errno) { r.Fault(api.Problem{Code: e, At: r.Peek().At}) }

// Fault: a problem, if there was none. What is no problem leaves the reader without one.
func (r *Reader) Fault(p api.Problem) {
	if r.bad.Code == api.OK && p.Code != api.OK {
		r.bad = p
	}
}

// Is: is the next token so, and gone past?
func (r *Reader) Is(kind int, text string) bool {
	x := r.Peek()
	if x.Kind != kind || x.Text != text {
		return false
	}
	r.Next()
	return true
}

// Must: the next token is so; else it is a fault.
func (r *Reader) Must(kind int, text string) {
	if !r.Is(kind, text) {
		r.Fail(api.ErrSyntax)
	}
}

// number: of the next token; false: it is none that may be read.
func (r *Reader) number() (uint64, bool) {
	x := r.Peek()
	if x.Kind != api.Number {
		return 0, false
	}
	v, e := field.Parse(x.Text)
	return v, e == api.OK
}

// Number: the next token's.
func (r *Reader) Number() uint64 {
	v, ok := r.number()
	if !ok {
		r.Fail(api.ErrSyntax)
		return 0
	}
	r.Next()
	return v
}

// Small: the next token's number, below a bound.
func (r *Reader) Small(most int) int {
	if v, ok := r.number(); ok && v >= uint64(most) {
		r.Fail(api.ErrRange)
		return 0
	}
	return int(r.Number())
}

// End: there is nothing more.
func (r *Reader) End() {
	if r.Peek().Kind != api.Line {
		r.Fail(api.ErrSyntax)
	}
}
