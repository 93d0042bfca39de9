// Package ip: addresses and prefixes: see ../shared/doc/01-ip.md.
package ip

import (
	"cmp"
	"strconv"
	"strings"

	"herepath/api"
	"herepath/number"
)

// AddrBits of an address, and so the most that a Len may be.
const AddrBits = 32

const (
	partBits = 8
	parts    = AddrBits / partBits
	mostPart = 1<<partBits - 1
)

// isAddr leans on the sign: of a number below 0 a shift leaves -1, not 0.
func isAddr(a int) bool { return a>>AddrBits == 0 }

func isLen(n int) bool { return 0 <= n && n <= AddrBits }

// right is asked ahead of every shift by a Len: a shift by less than 0 panics.
func right(p api.Prefix) bool { return Check(p) == nil }

// restBits are those behind the first n.
func restBits(n int) int { return 1<<(AddrBits-n) - 1 }

// alike: are the first n bits of two addresses the same?
func alike(a, b, n int) bool { return (a^b)>>(AddrBits-n) == 0 }

// AddrText of an address.
func AddrText(a int) string {
	if !isAddr(a) {
		return ""
	}
	s := ""
	for shift := AddrBits - partBits; shift > 0; shift -= partBits {
		s += strconv.Itoa(a>>shift&mostPart) + "."
	}
	return s + strconv.Itoa(a&mostPart)
}

// ReadAddr of a text.
func ReadAddr(s string) (int, error) {
	// One part more than there may be is enough to tell that there are too many.
	words := strings.SplitN(s, ".", parts+1)
	if len(words) != parts {
		return 0, api.ErrText
	}
	a := 0
	for _, w := range words {
		n, ok := number.Read(w)
		if !ok || n > mostPart {
			return 0, api.ErrText
		}
		a = a<<partBits | n
	}
	return a, nil
}

// Check a prefix.
func Check(p api.Prefix) error {
	if !isAddr(p.Addr) || !isLen(p.Len) {
		return api.ErrBound
	}
	if p.Addr&restBits(p.Len) != 0 {
		return api.ErrShape
	}
	return nil
}

// Text of a prefix.
func Text(p api.Prefix) string {
	if !right(p) {
		return ""
	}
	return AddrText(p.Addr) + "/" + strconv.Itoa(p.Len)
}

// Read a prefix.
func Read(s string) (api.Prefix, error) {
	// Without a slash the Len is empty, and no number.
	addr, length, _ := strings.Cut(s, "/")
	a, err := ReadAddr(addr)
	if err != nil {
		return api.Prefix{}, err
	}
	n, ok := number.Read(length)
	if !ok {
		return api.Prefix{}, api.ErrText
	}
	p := api.Prefix{Addr: a, Len: n}
	if err := Check(p); err != nil {
		return api.Prefix{}, err
	}
	return p, nil
}

// Cut an address.
func Cut(a, n int) (api.Prefix, error) {
	if !isAddr(a) || !isLen(n) {
		return api.Prefix{}, api.ErrBound
	}
	return api.Prefix{Addr: a &^ restBits(n), Len: n}, nil
}

// Has a prefix an address?
func Has(p api.Prefix, a int) bool {
	return right(p) && isAddr(a) && alike(p.Addr, a, p.Len)
}

// In: is a prefix in another one?
func In(q, p api.Prefix) bool {
	return right(q) && right(p) && p.Len <= q.Len && alike(p.Addr, q.Addr, p.Len)
}

// Less: does a prefix come ahead of another one?
func Less(a, b api.Prefix) bool {
	return right(a) && right(b) && Order(a, b) < 0
}

// Order of two prefixes, right or not, told as package cmp tells it; of right ones it is that of Less.
func Order(a, b api.Prefix) int {
	return cmp.Or(cmp.Compare(a.Addr, b.Addr), cmp.Compare(a.Len, b.Len))
}

// Halves of a prefix.
func Halves(p api.Prefix) (api.Prefix, api.Prefix, error) {
	if err := Check(p); err != nil {
		return api.Prefix{}, api.Prefix{}, err
	}
	if p.Len == AddrBits {
		return api.Prefix{}, api.Prefix{}, api.ErrNone
	}
	n := p.Len + 1
	next := 1 << (AddrBits - n)
	return api.Prefix{Addr: p.Addr, Len: n}, api.Prefix{Addr: p.Addr | next, Len: n}, nil
}

// Up: the one of which a prefix is a half.
func Up(p api.Prefix) (api.Prefix, error) {
	if err := Check(p); err != nil {
		return api.Prefix{}, err
	}
	if p.Len == 0 {
		return api.Prefix{}, api.ErrNone
	}
	return Cut(p.Addr, p.Len-1)
}

// Size of a prefix.
func Size(p api.Prefix) int {
	if !right(p) {
		return 0
	}
	return 1 << (AddrBits - p.Len)
}
