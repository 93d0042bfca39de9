package number_test

import (
	"strconv"
	"strings"
	"testing"

	"herepath/number"
)

func TestRead(t *testing.T) {
	for _, want := range []int{0, 1, 9, 10, 11, 99, 100, 101, 1000, 9999, 10000, 99999999, 100000000, 100000001, 123456789, 999999998, 999999999} {
		if got, ok := number.Read(strconv.Itoa(want)); got != want || !ok {
			t.Errorf("Read of %d: %d, %v", want, got, ok)
		}
	}
	for n := range 20000 {
		if got, ok := number.Read(strconv.Itoa(n)); got != n || !ok {
			t.Errorf("Read of %d: %d, %v", n, got, ok)
		}
	}
}

func TestReadWrong(t *testing.T) {
	for _, s := range []string{
		"", " ", "-", "+", ".", ",", "/", ":", "a", "00", "01", "007", "000000000", "000000001", "0000000001",
		"1000000000", "1234567890", "9999999999", "4294967296", "18446744073709551616", "9223372036854775808", strings.Repeat("1", 1<<20), strings.Repeat("0", 1<<20),
		"-0", "-1", "+0", "+1", "1-", "1+", "1.", ".1", "1.0", "1e0", "0x1", "0b1", "0o1", "1_0", "1,0", "1/", "/1", "1:", ":1", "1a", "a1",
		" 1", "1 ", "1 1", "1\n", "\t1", "1\x00", "\x001", "\xff", "1\xff", "１", "٤", "1\u200b", "\ufeff1", "²",
	} {
		if got, ok := number.Read(s); got != 0 || ok {
			t.Errorf("Read(%.20q) = %d, %v", s, got, ok)
		}
	}
}
