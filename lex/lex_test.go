package lex

import (
	"math"
	"slices"
	"strings"
	"testing"

	"granule/api"
)

func TestCheck(t *testing.T) { // P10.1
	for s, want := range map[string]api.Problem{
		"": {}, "test a\r\n\tx ~\x7e": {}, "ab\x00c": {Code: api.ErrByte, At: 2}, "ab\x7f": {Code: api.ErrByte, At: 2}, "\x0b": {Code: api.ErrByte}, "ä": {Code: api.ErrByte}, "\n\n\x1f\x00": {Code: api.ErrByte, At: 2},
	} {
		if Check(s) != want {
			t.Errorf("Check(%q): %v", s, Check(s))
		}
	}
	long := strings.Repeat(" ", api.MaxSource)
	if Check(long) != (api.Problem{}) || Check("\x00"+long) != (api.Problem{Code: api.ErrLong}) {
		t.Error("Check of long texts")
	}
}

func TestRows(t *testing.T) { // P10.1
	s := "  a b \t// c\n\n//x\r\n \t\r\nd/e//\nlast\r"
	want := []Row{{"a b", 2}, {"d/e", 22}, {"last", 28}}
	if got := Rows(s); !slices.Equal(got, want) {
		t.Errorf("Rows: %v", got)
	}
	for _, r := range Rows(s) {
		if s[r.At:r.At+len(r.Text)] != r.Text {
			t.Errorf("%v isn't at its place", r)
		}
	}
	if len(Rows("")) != 0 || len(Rows("\n \n// x")) != 0 {
		t.Error("Rows of nothing")
	}
	for s, want := range map[string]string{"exists(x": "exists", "a_Z09-b": "a_Z09", "": "", " a": "", "[x": "", "0x1 2": "0x1"} {
		if First(Row{Text: s}) != want {
			t.Errorf("First(%q): %q", s, First(Row{Text: s}))
		}
	}
}

func TestTokens(t *testing.T) { // P10.2, P10.4
	got, p := Tokens(Row{Text: "reg X1 = 0x10", At: 7})
	want := []api.Token{{Kind: api.Word, Text: "reg", At: 7}, {Kind: api.Word, Text: "X1", At: 11}, {Kind: api.Sign, Text: "=", At: 14}, {Kind: api.Number, Text: "0x10", At: 16}, {Kind: api.Line, At: 20}}
	if !slices.Equal(got, want) || p != (api.Problem{}) {
		t.Errorf("Tokens: %v, %v", got, p)
	}
	text := `/\\/=[](:),~a1 _b` + "\t\r7"
	got, p = Tokens(Row{Text: text})
	var texts []string
	for _, x := range got {
		texts = append(texts, x.Text)
		if text[x.At:x.At+len(x.Text)] != x.Text {
			t.Errorf("%v isn't at its place", x)
		}
	}
	if !slices.Equal(texts, []string{`/\`, `\/`, "=", "[", "]", "(", ":", ")", ",", "~", "a1", "_b", "7", ""}) || p != (api.Problem{}) {
		t.Errorf("Tokens: %q, %v", texts, p)
	}
	for s, want := range map[string]api.Problem{
		"a #":                                 {Code: api.ErrByte, At: 5 + 2},
		"a / b":                               {Code: api.ErrByte, At: 5 + 2},
		`a \b`:                                {Code: api.ErrByte, At: 5 + 2},
		"a\nb":                                {Code: api.ErrByte, At: 5 + 1},
		"ab\xff":                              {Code: api.ErrByte, At: 5 + 2},
		"  " + strings.Repeat("a", 25) + "#":  {Code: api.ErrName, At: 5 + 2},
		"x " + strings.Repeat("1", 25):        {Code: api.ErrName, At: 5 + 2},
		"x " + strings.Repeat("9", 24):        {Code: api.ErrBig, At: 5 + 2},
		"1x":                                  {Code: api.ErrDigit, At: 5},
		"y 0x":                                {Code: api.ErrDigit, At: 5 + 2},
		"# 1x " + strings.Repeat("a", 25):     {Code: api.ErrByte, At: 5},
		"0x" + strings.Repeat("0", 21) + "1 ": {},
		strings.Repeat("a", 24):               {},
	} {
		got, p := Tokens(Row{Text: s, At: 5})
		if p != want || p.Code != api.OK && got != nil {
			t.Errorf("Tokens(%q): %v, %v", s, got, p)
		}
	}
	if got, _ := Tokens(Row{At: 3}); !slices.Equal(got, []api.Token{{Kind: api.Line, At: 3}}) {
		t.Errorf("Tokens of nothing: %v", got)
	}
}

func reader(t *testing.T, s string) *Reader {
	t.Helper()
	list, p := Tokens(Row{Text: s, At: 100})
	if p.Code != api.OK {
		t.Fatal(p)
	}
	r := Read(list)
	list[0] = api.Token{}
	return r
}

func TestReader(t *testing.T) { // P10.3
	r := reader(t, "a = 5 b")
	if r.Bad() != (api.Problem{}) || r.Peek() != (api.Token{Kind: api.Word, Text: "a", At: 100}) || r.Next().Text != "a" {
		t.Error("at the beginning")
	}
	if r.Is(api.Word, "=") || r.Is(api.Sign, "a") || !r.Is(api.Sign, "=") || r.Peek().Text != "5" {
		t.Error("Is")
	}
	r.Must(api.Number, "5")
	r.End()
	if r.Bad() != (api.Problem{Code: api.ErrSyntax, At: 106}) {
		t.Errorf("End: %v", r.Bad())
	}
	r.Next()
	r.Must(api.Word, "c")
	r.Fault(api.Problem{Code: api.ErrByte, At: 1})
	r.Fail(api.ErrRange)
	if r.Bad() != (api.Problem{Code: api.ErrSyntax, At: 106}) {
		t.Errorf("a second problem: %v", r.Bad())
	}
	for range 3 {
		if x := r.Next(); x != (api.Token{Kind: api.Line, At: 107}) {
			t.Errorf("at the end: %v", x)
		}
	}
	r.Must(api.Line, "")
	none := Read(nil)
	if none.Peek() != (api.Token{Kind: api.Line}) || none.Next() != (api.Token{Kind: api.Line}) {
		t.Error("of no tokens")
	}
	none.End()
	none.Fault(api.Problem{})
	none.Fail(api.OK)
	if none.Bad() != (api.Problem{}) {
		t.Error("a problem of none")
	}
	none.Fault(api.Problem{Code: api.ErrTwice, At: -4})
	if none.Bad() != (api.Problem{Code: api.ErrTwice, At: -4}) {
		t.Error("Fault")
	}
}

func TestNumber(t *testing.T) { // P10.3
	r := reader(t, "0x10 7 x")
	if r.Number() != 16 || r.Small(8) != 7 || r.Bad().Code != api.OK {
		t.Error("Number or Small")
	}
	if r.Number() != 0 || r.Bad() != (api.Problem{Code: api.ErrSyntax, At: 107}) || r.Peek().Text != "x" {
		t.Errorf("Number of a word: %v", r.Bad())
	}
	for s, want := range map[string]api.Problem{"8": {Code: api.ErrRange, At: 100}, "0xffffffffffffffff": {Code: api.ErrRange, At: 100}, "x": {Code: api.ErrSyntax, At: 100}, "": {Code: api.ErrSyntax, At: 100}} {
		r := reader(t, s)
		if r.Small(8) != 0 || r.Bad() != want || r.Peek().At != 100 {
			t.Errorf("Small of %q: %v", s, r.Bad())
		}
	}
	if r := reader(t, "9223372036854775806"); r.Small(math.MaxInt) != math.MaxInt-1 {
		t.Error("Small of a great number")
	}
	raw := Read([]api.Token{{Kind: api.Number, Text: "zz", At: 3}})
	if raw.Small(5) != 0 || raw.Bad() != (api.Problem{Code: api.ErrSyntax, At: 3}) {
		t.Errorf("a Number that can't be read: %v", raw.Bad())
	}
}
