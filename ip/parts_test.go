package ip_test

import (
	"fmt"
	"slices"
	"testing"

	"herepath/api"
	"herepath/ip"
)

// wrongPrefixes: of no address, of no Len, of bits behind it, and several of these at once.
func wrongPrefixes() []api.Prefix {
	var l []api.Prefix
	for _, a := range notAddresses {
		for _, n := range []int{0, 1, 8, 31, 32, -1, 33} {
			l = append(l, api.Prefix{Addr: a, Len: n})
		}
	}
	for _, n := range notLens {
		for _, a := range []int{0, 1, 10 << 24, last} {
			l = append(l, api.Prefix{Addr: a, Len: n})
		}
	}
	for n := range 32 {
		for _, a := range []int{1 << (31 - n), 1, last} {
			l = append(l, api.Prefix{Addr: a, Len: n})
		}
	}
	return l
}

// rightPrefixes: all Lens, at the first and the last address and between.
func rightPrefixes() []api.Prefix {
	var l []api.Prefix
	for _, a := range []int{0, 1, 10<<24 + 1<<16 + 7<<8 + 9, 1<<31 - 1, 1 << 31, 0x55555555, 0xaaaaaaaa, last - 1, last} {
		for n := 0; n <= 32; n++ {
			l = append(l, api.Prefix{Addr: firstOf(a, n), Len: n})
		}
	}
	return l
}

// span of a right prefix: its first and its last address, by doubling and not by bits.
func span(p api.Prefix) (int, int) {
	size := 1
	for range 32 - p.Len {
		size *= 2
	}
	return p.Addr, p.Addr + size - 1
}

// around: what is in a prefix at its edges and its middle, and what lies beside it.
func around(p api.Prefix) []int {
	lo, hi := span(p)
	mid := lo + (hi-lo)/2
	return []int{lo - 1, lo, lo + 1, mid, mid + 1, hi - 1, hi, hi + 1}
}

func TestHas(t *testing.T) {
	for _, p := range rightPrefixes() {
		lo, hi := span(p)
		for _, a := range append(around(p), someAddresses()...) {
			if got, want := ip.Has(p, a), lo <= a && a <= hi && a <= last; got != want {
				t.Errorf("Has(%v, %d) = %v", p, a, got)
			}
		}
		for _, a := range notAddresses {
			if ip.Has(p, a) {
				t.Errorf("Has(%v, %d), which is no address", p, a)
			}
		}
	}
	for _, p := range wrongPrefixes() {
		for _, a := range []int{0, 1, p.Addr, p.Addr &^ 255, last, -1} {
			if ip.Has(p, a) {
				t.Errorf("Has(%v, %d) of a wrong prefix", p, a)
			}
		}
	}
}

func TestIn(t *testing.T) {
	l := rightPrefixes()
	for _, p := range l {
		lo, hi := span(p)
		for _, q := range l {
			first, end := span(q)
			if got, want := ip.In(q, p), lo <= first && end <= hi; got != want {
				t.Errorf("In(%v, %v) = %v", q, p, got)
			}
		}
	}
	for _, w := range wrongPrefixes() {
		for _, p := range []api.Prefix{{}, {Addr: 10 << 24, Len: 8}, {Addr: last, Len: 32}, {Len: 32}, w} {
			if ip.In(w, p) || ip.In(p, w) {
				t.Errorf("In of %v, which is wrong, and %v", w, p)
			}
		}
	}
}

func TestLess(t *testing.T) {
	l := rightPrefixes()
	for _, a := range l {
		for _, b := range l {
			want := a.Addr < b.Addr || a.Addr == b.Addr && a.Len < b.Len
			if got := ip.Less(a, b); got != want {
				t.Errorf("Less(%v, %v) = %v", a, b, got)
			}
		}
	}
	for _, w := range wrongPrefixes() {
		for _, p := range []api.Prefix{{}, {Len: 5}, {Addr: 10 << 24, Len: 8}, {Addr: last, Len: 32}, {Len: 32}, w, {Addr: w.Addr, Len: w.Len + 1}} {
			if ip.Less(w, p) || ip.Less(p, w) {
				t.Errorf("Less of %v, which is wrong, and %v", w, p)
			}
		}
	}
}

// Order tells of wrong ones, too, which is ahead, so that whatever is sorted by it comes in one order.
func TestOrder(t *testing.T) {
	l := append(rightPrefixes(), wrongPrefixes()...)
	for _, a := range l {
		for _, b := range l {
			want := 0
			if a.Addr < b.Addr || a.Addr == b.Addr && a.Len < b.Len {
				want = -1
			} else if a != b {
				want = 1
			}
			if got := ip.Order(a, b); got != want {
				t.Errorf("Order(%v, %v) = %d", a, b, got)
			}
		}
	}
}

func TestHalvesAndUp(t *testing.T) {
	for _, p := range rightPrefixes() {
		if p.Len == 32 {
			continue
		}
		lo, hi := span(p)
		mid := lo + (hi-lo)/2 + 1
		wantA, wantB := api.Prefix{Addr: lo, Len: p.Len + 1}, api.Prefix{Addr: mid, Len: p.Len + 1}
		a, b, err := ip.Halves(p)
		if a != wantA || b != wantB || err != nil {
			t.Errorf("Halves(%v) = %v, %v, %v", p, a, b, err)
		}
		for _, half := range []api.Prefix{wantA, wantB} {
			if got, err := ip.Up(half); got != p || err != nil {
				t.Errorf("Up(%v) = %v, %v, want %v", half, got, err, p)
			}
		}
	}
}

func TestHalvesAndUpWrong(t *testing.T) {
	askHalves := func(p api.Prefix, want error) {
		a, b, err := ip.Halves(p)
		checkBare(t, fmt.Sprint("Halves ", p), err, want)
		if a != (api.Prefix{}) || b != (api.Prefix{}) {
			t.Errorf("Halves(%v) = %v, %v with an error", p, a, b)
		}
	}
	askUp := func(p api.Prefix, want error) {
		u, err := ip.Up(p)
		checkBare(t, fmt.Sprint("Up ", p), err, want)
		if u != (api.Prefix{}) {
			t.Errorf("Up(%v) = %v with an error", p, u)
		}
	}
	for _, a := range someAddresses() {
		askHalves(api.Prefix{Addr: a, Len: 32}, api.ErrNone)
	}
	askUp(api.Prefix{}, api.ErrNone)
	for _, p := range wrongPrefixes() { // Check's come ahead of ErrNone
		want := api.ErrBound
		if p.Addr >= 0 && p.Addr <= last && p.Len >= 0 && p.Len <= 32 {
			want = api.ErrShape
		}
		askHalves(p, want)
		askUp(p, want)
	}
}

func TestSize(t *testing.T) {
	for n, want := range map[int]int{0: 4294967296, 1: 2147483648, 8: 16777216, 16: 65536, 24: 256, 28: 16, 31: 2, 32: 1} {
		if got := ip.Size(api.Prefix{Len: n}); got != want {
			t.Errorf("Size of Len %d = %d, want %d", n, got, want)
		}
	}
	for _, p := range rightPrefixes() {
		lo, hi := span(p)
		if got := ip.Size(p); got != hi-lo+1 {
			t.Errorf("Size(%v) = %d", p, got)
		}
	}
	for _, p := range wrongPrefixes() {
		if got := ip.Size(p); got != 0 {
			t.Errorf("Size(%v) = %d of a wrong prefix", p, got)
		}
	}
}

// P12: an address of a prefix is in just one of its halves, and one of none of these is in neither.
func TestAlwaysJustOneHalf(t *testing.T) {
	for _, p := range rightPrefixes() {
		if p.Len == 32 {
			continue
		}
		a, b, _ := ip.Halves(p)
		if ip.Size(a)+ip.Size(b) != ip.Size(p) || !ip.In(a, p) || !ip.In(b, p) || ip.In(p, a) || ip.In(p, b) || !ip.Less(p, b) || !ip.Less(p, a) || !ip.Less(a, b) {
			t.Errorf("halves of %v: %v, %v", p, a, b)
		}
		for _, x := range slices.Concat(around(p), around(a), around(b), someAddresses()) {
			has := ip.Has(p, x)
			inA, inB := ip.Has(a, x), ip.Has(b, x)
			if has && inA == inB || !has && (inA || inB) {
				t.Errorf("%d: %v has it: %v; its halves: %v, %v", x, p, has, inA, inB)
			}
		}
	}
}

// P12, on every prefix and every address that have but the last five bits of their own.
func TestAlwaysOneInTheOtherOrNothing(t *testing.T) {
	for _, base := range []int{0, 10<<24 + 1<<16, last - 31} {
		var l []api.Prefix
		for n := 27; n <= 32; n++ {
			for a := base; a < base+32; a += 1 << (32 - n) {
				l = append(l, api.Prefix{Addr: a, Len: n})
			}
		}
		for _, p := range l {
			for _, q := range l {
				both, pAlone, qAlone := 0, 0, 0
				for a := base - 1; a <= base+32; a++ {
					switch inP, inQ := ip.Has(p, a), ip.Has(q, a); {
					case inP && inQ:
						both++
					case inP:
						pAlone++
					case inQ:
						qAlone++
					}
				}
				if both > 0 && pAlone > 0 && qAlone > 0 {
					t.Errorf("%v and %v overlap", p, q)
				}
				if ip.In(p, q) != (pAlone == 0) || ip.In(q, p) != (qAlone == 0) || both+pAlone != ip.Size(p) {
					t.Errorf("%v and %v: %d together, %d and %d alone", p, q, both, pAlone, qAlone)
				}
			}
		}
	}
}

func TestAlwaysOnLongChains(t *testing.T) {
	for _, a := range someAddresses() {
		p, err := ip.Cut(a, 32)
		for n := 31; n >= 0 && err == nil; n-- {
			var up api.Prefix
			if up, err = ip.Up(p); err != nil {
				break
			}
			if cut, _ := ip.Cut(a, n); up != cut || !ip.Has(up, a) || !ip.In(p, up) || ip.In(up, p) {
				t.Errorf("Up(%v) = %v", p, up)
			}
			p = up
		}
		if p != (api.Prefix{}) || err != nil {
			t.Errorf("from %d up to %v, %v", a, p, err)
		}
	}
}
