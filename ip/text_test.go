package ip_test

import (
	"fmt"
	"math"
	"net/netip"
	"strconv"
	"strings"
	"testing"

	"herepath/api"
	"herepath/ip"
)

const last = 1<<32 - 1

// The faces stay as given.
var (
	_ func(int) string                                 = ip.AddrText
	_ func(string) (int, error)                        = ip.ReadAddr
	_ func(api.Prefix) error                           = ip.Check
	_ func(api.Prefix) string                          = ip.Text
	_ func(string) (api.Prefix, error)                 = ip.Read
	_ func(int, int) (api.Prefix, error)               = ip.Cut
	_ func(api.Prefix, int) bool                       = ip.Has
	_ func(api.Prefix, api.Prefix) bool                = ip.In
	_ func(api.Prefix, api.Prefix) bool                = ip.Less
	_ func(api.Prefix) (api.Prefix, api.Prefix, error) = ip.Halves
	_ func(api.Prefix) (api.Prefix, error)             = ip.Up
	_ func(api.Prefix) int                             = ip.Size
)

// notAddresses: numbers on both sides of what is one, and some whose low 32 bits look like one.
var notAddresses = []int{-1, -2, -256, last + 1, last + 2, 1 << 33, 1 << 40, 1<<40 + 5, -1 << 32, -last, math.MinInt, math.MinInt + 1, math.MaxInt, math.MaxInt - 1}

var notLens = []int{-1, -2, -32, -64, 33, 34, 64, 65, 128, 255, 256, 1 << 32, 1<<32 + 8, math.MinInt, math.MaxInt}

// someAddresses: the first and the last one, each bit alone, each run of bits from the front and from the back, with what lies beside them.
func someAddresses() []int {
	l := []int{0, 1, 2, last, last - 1, 10<<24 + 1<<16 + 7<<8 + 9, 192<<24 + 168<<16, 0x55555555, 0xaaaaaaaa, 0x01020304, 0xdeadbeef}
	for i := range 32 {
		bit, run := 1<<i, 1<<i-1
		for _, a := range []int{bit, bit + 1, bit - 1, run, last - bit, last - run, last ^ bit} {
			if a >= 0 && a <= last {
				l = append(l, a)
			}
		}
	}
	return l
}

// firstOf: the first address of the prefix of that Len, by division and not by bits.
func firstOf(a, n int) int {
	size := 1
	for range 32 - n {
		size *= 2
	}
	return a / size * size
}

// checkBare: errors of these calls have no place, and are not wrapped (P3).
func checkBare(t *testing.T, what string, got, want error) {
	t.Helper()
	if got != want {
		t.Errorf("%s: error %v, want %v, bare", what, got, want)
	}
}

func TestAddrTextAndBack(t *testing.T) {
	for a, want := range map[int]string{
		0: "0.0.0.0", 1: "0.0.0.1", 255: "0.0.0.255", 256: "0.0.1.0", 1 << 16: "0.1.0.0", 1 << 24: "1.0.0.0",
		1<<31 - 1: "127.255.255.255", 1 << 31: "128.0.0.0", 100<<24 + 20<<16 + 3<<8 + 200: "100.20.3.200", last: "255.255.255.255",
	} {
		if got := ip.AddrText(a); got != want {
			t.Errorf("AddrText(%d) = %q, want %q", a, got, want)
		}
	}
	for _, a := range someAddresses() {
		want := fmt.Sprintf("%d.%d.%d.%d", a/(1<<24), a/(1<<16)%256, a/256%256, a%256)
		if got := ip.AddrText(a); got != want {
			t.Errorf("AddrText(%d) = %q, want %q", a, got, want)
		}
		if got, err := ip.ReadAddr(want); got != a || err != nil {
			t.Errorf("ReadAddr(%q) = %d, %v, want %d", want, got, err, a)
		}
	}
	for _, a := range notAddresses {
		if got := ip.AddrText(a); got != "" {
			t.Errorf("AddrText(%d) = %q, want none", a, got)
		}
	}
}

// Each number of each place, right or not.
func TestReadAddrEachNumber(t *testing.T) {
	for place := range 4 {
		for n := range 1100 {
			words := []string{"1", "2", "3", "4"}
			words[place] = strconv.Itoa(n)
			s := strings.Join(words, ".")
			shift := 24 - 8*place
			want := 1<<24 + 2<<16 + 3<<8 + 4 - (place+1)<<shift + n<<shift
			got, err := ip.ReadAddr(s)
			if n < 256 && (got != want || err != nil) {
				t.Errorf("ReadAddr(%q) = %d, %v, want %d", s, got, err, want)
			}
			if n > 255 && (got != 0 || err != api.ErrText) {
				t.Errorf("ReadAddr(%q) = %d, %v, want ErrText", s, got, err)
			}
		}
	}
}

// notTexts of an address: each is also tried with a Len behind.
var notTexts = []string{
	"", ".", "..", "...", "....", "1", "1.2", "1.2.3", "1.2.3.4.5", "1.2.3.4.", ".1.2.3.4", "1..3.4", "1.2..4", "1.2.3.", ".2.3.4", "1.2.3.4..",
	"00.0.0.0", "0.00.0.0", "0.0.0.00", "01.2.3.4", "1.02.3.4", "1.2.003.4", "1.2.3.04", "1.2.3.000",
	"256.0.0.0", "0.256.0.0", "0.0.256.0", "0.0.0.256", "1.2.3.1000", "1.2.3.999999999", "1.2.3.1000000000",
	"4294967297.2.3.4", "1.2.3.18446744073709551620", "1.2.3.9223372036854775808", "1.2.3.340282366920938463463374607431768211457",
	"-1.2.3.4", "1.2.3.-4", "-0.0.0.0", "+1.2.3.4", "1.2.3.+4", "1.2.3.4e0", "1.2.3.0x4", "0x1.2.3.4", "0b1.2.3.4", "1_0.2.3.4", "1.2.3.1_0",
	" 1.2.3.4", "1.2.3.4 ", "1. 2.3.4", "1 .2.3.4", "1.2.3.4\n", "\t1.2.3.4", "1.2.3.4\x00", "\x001.2.3.4", "1.2.3.4\r\n",
	"a.2.3.4", "1.2.3.a", "1.2.3.4a", "1.2.3.:", "1.2.3./", "1,2,3,4", "1:2:3:4", "1.2.3,4", "1 2 3 4", "1.2.3 4", "::1", "::ffff:1.2.3.4", "16909060",
	"１.2.3.4", "1.2.3.٤", "1。2。3。4", "1.2.3.\xff", "\xff\xfe", "1.2.3.4\u200b", "\ufeff1.2.3.4", "localhost",
}

func TestReadAddrWrong(t *testing.T) {
	for _, s := range notTexts {
		a, err := ip.ReadAddr(s)
		checkBare(t, strconv.Quote(s), err, api.ErrText)
		if a != 0 {
			t.Errorf("ReadAddr(%q) = %d with an error", s, a)
		}
	}
	if _, err := ip.ReadAddr("1.2.3.4/8"); err != api.ErrText {
		t.Error("a prefix is no address:", err)
	}
}

func TestCheck(t *testing.T) {
	for _, a := range someAddresses() {
		for n := 0; n <= 32; n++ {
			first := firstOf(a, n)
			if err := ip.Check(api.Prefix{Addr: first, Len: n}); err != nil {
				t.Errorf("Check(%d/%d) = %v", first, n, err)
			}
			if a != first {
				checkBare(t, fmt.Sprint(a, n), ip.Check(api.Prefix{Addr: a, Len: n}), api.ErrShape)
			}
		}
		for _, n := range notLens {
			checkBare(t, fmt.Sprint(a, n), ip.Check(api.Prefix{Addr: a, Len: n}), api.ErrBound)
		}
	}
	for _, a := range notAddresses {
		for n := -2; n <= 34; n++ {
			checkBare(t, fmt.Sprint(a, n), ip.Check(api.Prefix{Addr: a, Len: n}), api.ErrBound)
		}
		for _, n := range notLens {
			checkBare(t, fmt.Sprint(a, n), ip.Check(api.Prefix{Addr: a, Len: n}), api.ErrBound)
		}
	}
}

// Just one bit behind the first Len is enough for ErrShape; a bit among them is none.
func TestCheckEachBit(t *testing.T) {
	for n := 0; n <= 32; n++ {
		for bit := range 32 {
			p := api.Prefix{Addr: 1 << (31 - bit), Len: n}
			var want error
			if bit >= n {
				want = api.ErrShape
			}
			checkBare(t, fmt.Sprint(p), ip.Check(p), want)
		}
	}
}

func TestTextAndRead(t *testing.T) {
	for s, want := range map[string]api.Prefix{
		"0.0.0.0/0": {}, "0.0.0.0/32": {Len: 32}, "128.0.0.0/1": {Addr: 1 << 31, Len: 1}, "10.1.0.0/16": {Addr: 10<<24 + 1<<16, Len: 16},
		"255.255.255.254/31": {Addr: last - 1, Len: 31}, "255.255.255.255/32": {Addr: last, Len: 32}, "1.2.3.4/30": {Addr: 1<<24 + 2<<16 + 3<<8 + 4, Len: 30},
	} {
		if got := ip.Text(want); got != s {
			t.Errorf("Text(%v) = %q, want %q", want, got, s)
		}
		if got, err := ip.Read(s); got != want || err != nil {
			t.Errorf("Read(%q) = %v, %v, want %v", s, got, err, want)
		}
	}
	for _, a := range someAddresses() {
		for n := 0; n <= 32; n++ {
			p := api.Prefix{Addr: firstOf(a, n), Len: n}
			s := ip.Text(p)
			if want := ip.AddrText(p.Addr) + "/" + strconv.Itoa(n); s != want {
				t.Errorf("Text(%v) = %q, want %q", p, s, want)
			}
			if got, err := ip.Read(s); got != p || err != nil {
				t.Errorf("Read(%q) = %v, %v", s, got, err)
			}
		}
	}
}

func TestTextWrong(t *testing.T) {
	for _, p := range wrongPrefixes() {
		if s := ip.Text(p); s != "" {
			t.Errorf("Text(%v) = %q, want none", p, s)
		}
	}
}

func TestReadWrong(t *testing.T) {
	wrong := map[string]error{
		"10.0.0.0": api.ErrText, "/": api.ErrText, "/8": api.ErrText, "10.0.0.0/": api.ErrText, "10.0.0.0//8": api.ErrText, "10.0.0.0/8/": api.ErrText, "10.0.0.0/8/8": api.ErrText, "/10.0.0.0/8": api.ErrText, "8/10.0.0.0": api.ErrText,
		"10.0.0.0/08": api.ErrText, "10.0.0.0/00": api.ErrText, "10.0.0.0/032": api.ErrText, "10.0.0.0/+8": api.ErrText, "10.0.0.0/-0": api.ErrText, "10.0.0.0/-1": api.ErrText, "10.0.0.0/-8": api.ErrText,
		"10.0.0.0/ 8": api.ErrText, "10.0.0.0/8 ": api.ErrText, "10.0.0.0 /8": api.ErrText, " 10.0.0.0/8": api.ErrText, "10.0.0.0/8\n": api.ErrText, "10.0.0.0/8\x00": api.ErrText,
		"10.0.0.0/a": api.ErrText, "10.0.0.0/8a": api.ErrText, "10.0.0.0/0x8": api.ErrText, "10.0.0.0/1_6": api.ErrText, "10.0.0.0/8.0": api.ErrText, "10.0.0.0/８": api.ErrText, "10.0.0.0/255.0.0.0": api.ErrText, `10.0.0.0\8`: api.ErrText, "10.0.0.0-8": api.ErrText,
		"10.0.0.0/1000000000": api.ErrText, "10.0.0.0/4294967304": api.ErrText, "10.0.0.0/18446744073709551624": api.ErrText,
		"10.0.0.0/33": api.ErrBound, "0.0.0.0/33": api.ErrBound, "10.0.0.0/40": api.ErrBound, "10.0.0.0/64": api.ErrBound, "10.0.0.0/264": api.ErrBound, "10.0.0.0/999999999": api.ErrBound,
		"10.0.0.0/6": api.ErrShape, "0.0.0.1/0": api.ErrShape, "255.255.255.255/31": api.ErrShape, "255.255.255.255/0": api.ErrShape, "128.0.0.0/0": api.ErrShape, "10.0.0.1/31": api.ErrShape, "10.0.0.128/24": api.ErrShape,
		// The text comes first, then the bound, then the shape.
		"10.0.0.1/33": api.ErrBound, "10.0.0.1/08": api.ErrText, "256.0.0.0/33": api.ErrText, "10.0.0.256/6": api.ErrText, "10.0.0.1/40x": api.ErrText,
	}
	for _, s := range notTexts {
		wrong[s+"/0"], wrong[s+"/33"], wrong[s+"/32"], wrong[s] = api.ErrText, api.ErrText, api.ErrText, api.ErrText
	}
	for s, want := range wrong {
		p, err := ip.Read(s)
		checkBare(t, strconv.Quote(s), err, want)
		if p != (api.Prefix{}) {
			t.Errorf("Read(%q) = %v with an error", s, p)
		}
	}
}

func TestCut(t *testing.T) {
	for _, a := range someAddresses() {
		for n := 0; n <= 32; n++ {
			want := api.Prefix{Addr: firstOf(a, n), Len: n}
			if got, err := ip.Cut(a, n); got != want || err != nil {
				t.Errorf("Cut(%d, %d) = %v, %v, want %v", a, n, got, err, want)
			}
		}
	}
}

func TestCutWrong(t *testing.T) {
	ask := func(a, n int) {
		p, err := ip.Cut(a, n)
		checkBare(t, fmt.Sprint("Cut ", a, n), err, api.ErrBound)
		if p != (api.Prefix{}) {
			t.Errorf("Cut(%d, %d) = %v with an error", a, n, p)
		}
	}
	for _, n := range notLens {
		for _, a := range []int{0, 1, 10 << 24, last} {
			ask(a, n)
		}
		for _, a := range notAddresses {
			ask(a, n)
		}
	}
	for _, a := range notAddresses {
		for n := 0; n <= 32; n++ {
			ask(a, n)
		}
	}
}

// FuzzRead holds what is read against the library's own reader. The seeds run with every test.
func FuzzRead(f *testing.F) {
	for _, s := range notTexts {
		f.Add(s)
		f.Add(s + "/8")
	}
	for _, s := range []string{"1.2.3.4", "0.0.0.0/0", "10.0.0.0/8", "10.0.0.0/6", "10.0.0.0/33", "255.255.255.255/32", "255.255.255.255/031"} {
		f.Add(s)
	}
	f.Fuzz(func(t *testing.T, s string) {
		a, err := ip.ReadAddr(s)
		x, errX := netip.ParseAddr(s)
		if (err == nil) != (errX == nil && x.Is4()) {
			t.Errorf("ReadAddr(%q) = %d, %v, the library: %v, %v", s, a, err, x, errX)
		}
		if err == nil && ip.AddrText(a) != s || err != nil && (a != 0 || err != api.ErrText) {
			t.Errorf("ReadAddr(%q) = %d, %v", s, a, err)
		}
		p, err := ip.Read(s)
		y, errY := netip.ParsePrefix(s)
		if (err == nil) != (errY == nil && y.Addr().Is4() && y == y.Masked()) {
			t.Errorf("Read(%q) = %v, %v, the library: %v, %v", s, p, err, y, errY)
		}
		if err == nil && (ip.Text(p) != s || ip.Check(p) != nil) || err != nil && p != (api.Prefix{}) {
			t.Errorf("Read(%q) = %v, %v", s, p, err)
		}
	})
}
