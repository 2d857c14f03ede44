package field

import (
	"math"
	"strings"
	"testing"

	"granule/api"
)

// words: ordinary ones and the edges.
func words() []uint64 {
	list := []uint64{0, 1, 0xabcd, math.MaxUint64, 1 << 63, 0x123456789abcdef0}
	for i := range 64 {
		list = append(list, 1<<i-1, 3<<i)
	}
	return list
}

func TestParts(t *testing.T) { // P2.1
	if Get(0xabcd, 11, 4) != 0xbc || Get(math.MaxUint64, 63, 0) != math.MaxUint64 || Get(1<<63, 63, 63) != 1 {
		t.Error("Get")
	}
	if Put(0xabcd, 11, 4, 0xf12) != 0xa12d || Put(5, 63, 0, 7) != 7 || Put(0, 63, 63, 3) != 1<<63 {
		t.Error("Put")
	}
	for _, x := range [][2]int{{64, 0}, {3, 4}, {3, -1}, {-1, -1}, {-1, 0}, {math.MaxInt, 0}, {0, math.MinInt}, {64, 64}} {
		if Get(math.MaxUint64, x[0], x[1]) != 0 || Put(9, x[0], x[1], 1) != 9 {
			t.Errorf("bits %v", x)
		}
	}
	if !Bit(2, 1) || Bit(2, 0) || !Bit(1<<63, 63) || Bit(math.MaxUint64, 64) || Bit(math.MaxUint64, -1) {
		t.Error("Bit")
	}
}

func TestSigned(t *testing.T) { // P2.1
	for _, x := range []struct {
		w    uint64
		n    int
		want int
	}{
		{0xff, 8, -1}, {0x7f, 8, 127}, {0x80, 8, -128}, {1, 1, -1}, {0, 1, 0}, {0xf05, 4, 5},
		{1 << 62, 63, -1 << 62}, {math.MaxUint64, 63, -1}, {1<<62 - 1, 63, 1<<62 - 1},
		{math.MaxUint64, 64, 0}, {math.MaxUint64, 0, 0}, {math.MaxUint64, -5, 0}, {math.MaxUint64, 65, 0},
	} {
		if got := Signed(x.w, x.n); got != x.want {
			t.Errorf("Signed(%x, %d): %d", x.w, x.n, got)
		}
	}
	for n := 1; n <= 63; n++ {
		lo, hi := -1<<(n-1), 1<<(n-1)-1
		if !Fits(lo, n) || !Fits(hi, n) || Fits(lo-1, n) || Fits(hi+1, n) {
			t.Errorf("Fits %d", n)
		}
	}
	for _, n := range []int{0, -1, 64, 65, math.MinInt, math.MaxInt} {
		if Fits(0, n) {
			t.Errorf("Fits(0, %d)", n)
		}
	}
}

func TestAligned(t *testing.T) { // P2.2
	for _, x := range []struct {
		w    uint64
		n    int
		want bool
	}{{8, 3, true}, {8, 4, false}, {7, 0, true}, {7, -1, true}, {7, math.MinInt, true}, {0, 64, true}, {0, 99, true}, {1 << 63, 63, true}, {1 << 63, 64, false}, {1 << 63, math.MaxInt, false}} {
		if Aligned(x.w, x.n) != x.want {
			t.Errorf("Aligned(%x, %d)", x.w, x.n)
		}
	}
	if Down(0xfff, 8) != 0xf00 || Down(5, 0) != 5 || Down(5, -3) != 5 || Down(math.MaxUint64, 64) != 0 || Down(math.MaxUint64, 1000) != 0 || Down(math.MaxUint64, 63) != 1<<63 {
		t.Error("Down")
	}
}

func TestTexts(t *testing.T) { // P2.3
	if Hex(0) != "0x0" || Hex(0xABC) != "0xabc" || Dec(math.MaxUint64) != "18446744073709551615" || Int(-7) != "-7" || Int(math.MinInt) != "-9223372036854775808" {
		t.Error("texts of words")
	}
	for _, x := range []struct {
		s    string
		want uint64
		e    api.Errno
	}{
		{"0x1F", 31, 0}, {"0xfF", 255, 0}, {"007", 7, 0}, {"18446744073709551615", math.MaxUint64, 0}, {"0x00000000000000000000ffffffffffffffff", math.MaxUint64, 0},
		{"18446744073709551616", 0, api.ErrBig}, {"0x10000000000000000", 0, api.ErrBig}, {strings.Repeat("9", 500), 0, api.ErrBig},
		{"99999999999999999999999x", 0, api.ErrDigit}, {"0x10000000000000000g", 0, api.ErrDigit},
		{"", 0, api.ErrDigit}, {"0x", 0, api.ErrDigit}, {"0X1", 0, api.ErrDigit}, {"1f", 0, api.ErrDigit}, {"-1", 0, api.ErrDigit}, {"+1", 0, api.ErrDigit}, {" 1", 0, api.ErrDigit}, {"1_0", 0, api.ErrDigit}, {"0x-1", 0, api.ErrDigit}, {"\xff", 0, api.ErrDigit},
		{strings.Repeat("0", 500) + "1", 1, 0},
	} {
		if w, e := Parse(x.s); w != x.want || e != x.e {
			t.Errorf("Parse(%q): %d, %d", x.s, w, e)
		}
	}
}

func TestPlaces(t *testing.T) { // P2.4
	a := uint64(0x3fffffff)
	if Page(0x12345) != 0x12000 || Slot(a, 1) != 511 || Slot(a, 2) != 511 || Slot(0x200000, 1) != 1 || Slot(0x1000, 2) != 1 || Slot(1<<30, 1) != 0 {
		t.Error("Page or Slot")
	}
	for _, level := range []int{0, 3, -1} {
		if Slot(a, level) != 0 {
			t.Errorf("Slot at level %d", level)
		}
	}
	if !Within(a) || Within(1<<30) || Within(math.MaxUint64) {
		t.Error("Within")
	}
}

func TestFollows(t *testing.T) { // P2.5, P2.6
	for _, w := range words() {
		for hi := range 64 {
			for lo := range hi + 1 {
				p := Put(w, hi, lo, ^w)
				if Get(p, hi, lo) != Get(^w, hi-lo, 0) {
					t.Fatalf("Get of Put of %x at %d %d", w, hi, lo)
				}
				if Get(p, 63, hi+1) != Get(w, 63, hi+1) || Get(p, lo-1, 0) != Get(w, lo-1, 0) {
					t.Fatalf("beside Put of %x at %d %d", w, hi, lo)
				}
			}
		}
		if v, e := Parse(Hex(w)); v != w || e != api.OK {
			t.Errorf("Parse of %s", Hex(w))
		}
		if v, e := Parse(Dec(w)); v != w || e != api.OK {
			t.Errorf("Parse of %s", Dec(w))
		}
	}
}
