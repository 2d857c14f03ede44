// Package diy is layer 24: see shared/doc/24-diy.md.
package diy

import (
	"strings"

	"granule/api"
)

// The kinds of links: within a core, and from one to the next.
const (
	Po = iota + 1
	Dmb
	Dsb
	Addr
	Data
	Ctrl
	CtrlIsb
	Rfe
	Fre
	Coe
)

// names are those of kinds.
var names = [Coe + 1]string{Po: "Po", Dmb: "Dmb", Dsb: "Dsb", Addr: "Addr", Data: "Data", Ctrl: "Ctrl", CtrlIsb: "CtrlIsb", Rfe: "Rfe", Fre: "Fre", Coe: "Coe"}

// Link leads from a read or a write to a read or a write.
type Link struct {
	Kind int
	From bool // a write
	To   bool
}

// may: may a link be?
func may(l Link) bool {
	switch l.Kind {
	case Po, Dmb, Dsb:
		return true
	case Addr, Ctrl, CtrlIsb:
		return !l.From
	case Data, Fre:
		return !l.From && l.To
	case Rfe:
		return l.From && !l.To
	case Coe:
		return l.From && l.To
	}
	return false
}

// Outer: does a link lead to another core?
func Outer(l Link) bool { return l.Kind >= Rfe }

// Strong: does a link within a core keep its order, or does it lead to another one?
func Strong(l Link) bool {
	return may(l) && l.Kind != Po && (l.Kind != Ctrl || l.To)
}

// letter: of a link's end.
func letter(write bool) string {
	if write {
		return "W"
	}
	return "R"
}

// Name: a link's; of one within a core with both its ends.
func Name(l Link) string {
	if l.Kind < Po || l.Kind > Coe {
		return ""
	}
	if !may(l) || Outer(l) {
		return names[l.Kind]
	}
	return names[l.Kind] + letter(l.From) + letter(l.To)
}

// Links: every link that may be.
func Links() []Link {
	var list []Link
	for kind := Po; kind <= Coe; kind++ {
		for ends := range 4 {
			if l := (Link{Kind: kind, From: ends >= 2, To: ends%2 == 1}); may(l) {
				list = append(list, l)
			}
		}
	}
	return list
}

// Read: links by their names, with blanks between.
func Read(s string) ([]Link, api.Errno) {
	var list []Link
words:
	for _, w := range strings.Fields(s) {
		for _, l := range Links() {
			if Name(l) == w {
				list = append(list, l)
				continue words
			}
		}
		return nil, api.ErrName
	}
	return list, api.OK
}

// Show: links' names, with blanks between.
func Show(list []Link) string {
	var words []string
	for _, l := range list {
		words = append(words, Name(l))
	}
	return strings.Join(words, " ")
}

// Known: a cycle that has a name; "" of another one.
func Known(name string) string {
	switch name {
	case "MP":
		return "PoWW Rfe PoRR Fre"
	case "SB":
		return "PoWR Fre PoWR Fre"
	case "LB":
		return "PoRW Rfe PoRW Rfe"
	case "S":
		return "PoWW Rfe PoRW Coe"
	case "R":
		return "PoWW Coe PoWR Fre"
	case "2+2W":
		return "PoWW Coe PoWW Coe"
	case "WRC":
		return "Rfe PoRW Rfe PoRR Fre"
	case "IRIW":
		return "Rfe PoRR Fre Rfe PoRR Fre"
	}
	return ""
}
