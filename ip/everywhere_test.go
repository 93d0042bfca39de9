package ip_test

import (
	"fmt"
	"math"
	"strings"
	"sync"
	"testing"

	"herepath/api"
	"herepath/ip"
)

// tellAll asks every call of the package, and writes down what it answers.
func tellAll(p, q api.Prefix, s string) string {
	a, errA := ip.ReadAddr(s)
	r, errR := ip.Read(s)
	c, errC := ip.Cut(p.Addr, p.Len)
	x, y, errH := ip.Halves(p)
	u, errU := ip.Up(p)
	return fmt.Sprint(ip.AddrText(p.Addr), a, errA, ip.Check(p), ip.Text(p), r, errR, c, errC, ip.Has(p, q.Addr), ip.In(q, p), ip.Less(q, p), x, y, errH, u, errU, ip.Size(p))
}

var strangeNumbers = []int{math.MinInt, math.MinInt + 1, math.MinInt32, -65, -64, -33, -32, -1, 0, 1, 31, 32, 33, 63, 64, 65, math.MaxInt32, last, last + 1, 1 << 62, math.MaxInt - 1, math.MaxInt}

func strangeTexts() []string {
	return append([]string{strings.Repeat(".", 1<<20), strings.Repeat("/", 1<<20), strings.Repeat("1", 1<<20), strings.Repeat("1.", 1<<20), strings.Repeat("0", 1<<20) + "/8", "1.2.3.4/" + strings.Repeat("9", 1<<20)}, notTexts...)
}

// P1: a panic fails the test, and so does a call that does not end.
func TestNoCallPanics(t *testing.T) {
	for _, a := range strangeNumbers {
		for _, n := range strangeNumbers {
			for _, b := range strangeNumbers {
				tellAll(api.Prefix{Addr: a, Len: n}, api.Prefix{Addr: b, Len: n}, "")
				tellAll(api.Prefix{Addr: a, Len: n}, api.Prefix{Addr: n, Len: b}, "")
			}
		}
	}
	for _, s := range strangeTexts() {
		if _, err := ip.ReadAddr(s); err != api.ErrText {
			t.Errorf("ReadAddr of %.20q: %v", s, err)
		}
		if _, err := ip.Read(s); err != api.ErrText {
			t.Errorf("Read of %.20q: %v", s, err)
		}
	}
}

// P2, P4: neither what was asked ahead, nor who asks at the same time, shows in an answer; go test -race would tell of memory that is shared.
func TestAnswersHangOnArgumentsAlone(t *testing.T) {
	type ask struct {
		p, q api.Prefix
		s    string
	}
	var asks []ask
	l := append(wrongPrefixes(), rightPrefixes()...)
	for i, p := range l {
		asks = append(asks, ask{p, l[(i*7+3)%len(l)], notTexts[i%len(notTexts)]}, ask{p, l[(i*5+1)%len(l)], ip.Text(p)})
	}
	first := make([]string, len(asks))
	for i, a := range asks {
		first[i] = tellAll(a.p, a.q, a.s)
	}
	var wg sync.WaitGroup
	for worker := range 8 {
		wg.Go(func() {
			for i := range asks {
				k := len(asks) - 1 - (i+worker*97)%len(asks)
				if got := tellAll(asks[k].p, asks[k].q, asks[k].s); got != first[k] {
					t.Errorf("%v: %q, then %q", asks[k], first[k], got)
				}
			}
		})
	}
	wg.Wait()
}
