package explore

import (
	"strings"

	"granule/api"
	"granule/field"
)

// Text: of an outcome; unlike ones have unlike texts.
func Text(o api.Outcome) string {
	var b strings.Builder
	for i, list := range o.Regs {
		b.WriteString("core " + field.Int(i))
		for n, v := range list {
			if v != 0 {
				b.WriteString(" X" + field.Int(n) + "=" + field.Hex(v))
			}
		}
		b.WriteByte('\n')
	}
	for i, list := range o.Faults {
		for _, f := range list {
			b.WriteString("fault " + field.Int(i) + " " + field.Int(f.Kind) + " " + field.Int(f.Level))
			if f.Write {
				b.WriteString(" write")
			}
			b.WriteByte('\n')
		}
	}
	for _, c := range o.Cells {
		b.WriteString("cell " + field.Hex(c.Addr) + "=" + field.Hex(c.Value) + "\n")
	}
	return b.String()
}
