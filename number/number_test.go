package number_test

import (
	"math"
	"strconv"
	"strings"
	"testing"

	"herepath/number"
)

func TestRead(t *testing.T) {
	for _, want := range []int{0, 1, 9, 10, 11, 99, 100, 101, 1000, 9999, 10000, 99999999, 100000000, 100000001, 123456789, 999999998, 999999999} {
		if got, ok := number.Read(strconv.Itoa(want)); got != want || !ok {
			t.Errorf("Read of %d: %d, %v", want, got, ok)
		}
	}
	for n := range 20000 {
		if got, ok := number.Read(strconv.Itoa(n)); got != n || !ok {
			t.Errorf("Read of %d: %d, %v", n, got, ok)
		}
	}
}

func TestReadWrong(t *testing.T) {
	for _, s := range []string{
		"", " ", "-", "+", ".", ",", "/", ":", "a", "00", "01", "007", "000000000", "000000001", "0000000001",
		"1000000000", "1234567890", "9999999999", "4294967296", "18446744073709551616", "9223372036854775808", strings.Repeat("1", 1<<20), strings.Repeat("0", 1<<20),
		"-0", "-1", "+0", "+1", "1-", "1+", "1.", ".1", "1.0", "1e0", "0x1", "0b1", "0o1", "1_0", "1,0", "1/", "/1", "1:", ":1", "1a", "a1",
		" 1", "1 ", "1 1", "1\n", "\t1", "1\x00", "\x001", "\xff", "1\xff", "１", "٤", "1\u200b", "\ufeff1", "²",
	} {
		if got, ok := number.Read(s); got != 0 || ok {
			t.Errorf("Read(%.20q) = %d, %v", s, got, ok)
		}
	}
}

func TestWithin(t *testing.T) {
	for from := -3; from <= 3; from++ {
		for to := -3; to <= 3; to++ {
			for n := -5; n <= 5; n++ {
				want := false
				for x := from; x <= to; x++ {
					want = want || x == n
				}
				if got := number.Within(n, from, to); got != want {
					t.Errorf("Within(%d, %d, %d) = %v", n, from, to, got)
				}
			}
		}
	}
	if !number.Within(0, math.MinInt, math.MaxInt) || !number.Within(math.MinInt, math.MinInt, 0) || !number.Within(math.MaxInt, 0, math.MaxInt) || number.Within(0, math.MaxInt, math.MinInt) {
		t.Error("the least and the greatest numbers are no bounds")
	}
}

func TestIsSystem(t *testing.T) {
	for n := -3; n <= 1003; n++ {
		if got, want := number.IsSystem(n), n >= 1 && n <= 1000; got != want {
			t.Errorf("IsSystem(%d) = %v", n, got)
		}
	}
	for _, n := range []int{math.MinInt, -1000, -1 << 32, 1<<32 + 1, 10000, math.MaxInt} {
		if number.IsSystem(n) {
			t.Errorf("IsSystem(%d)", n)
		}
	}
}
