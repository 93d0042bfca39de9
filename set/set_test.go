package set_test

import (
	"math/rand"
	"slices"
	"strings"
	"testing"

	"herepath/api"
	"herepath/ip"
	"herepath/set"
)

const last = 1<<32 - 1

// The faces stay as given.
var (
	_ func([]api.Prefix) ([]api.Prefix, error)               = set.Norm
	_ func([]api.Prefix, []api.Prefix) ([]api.Prefix, error) = set.Or
	_ func([]api.Prefix, []api.Prefix) ([]api.Prefix, error) = set.And
	_ func([]api.Prefix, []api.Prefix) ([]api.Prefix, error) = set.Not
	_ func([]api.Prefix, int) bool                           = set.Has
	_ func([]api.Prefix) (int, error)                        = set.Count
)

func list(t *testing.T, s string) []api.Prefix {
	t.Helper()
	var l []api.Prefix
	for _, w := range strings.Fields(s) {
		p, err := ip.Read(w)
		if err != nil {
			t.Fatalf("%q: %v", w, err)
		}
		l = append(l, p)
	}
	return l
}

func told(l []api.Prefix) string {
	var words []string
	for _, p := range l {
		words = append(words, ip.Text(p))
	}
	return strings.Join(words, " ")
}

func TestNorm(t *testing.T) {
	for _, c := range []struct{ name, in, want string }{
		{"nothing at all", "", ""},
		{"one", "10.0.0.0/24", "10.0.0.0/24"},
		{"two halves", "10.0.0.0/25 10.0.0.128/25", "10.0.0.0/24"},
		{"two halves, the greater one first", "10.0.0.128/25 10.0.0.0/25", "10.0.0.0/24"},
		{"beside each other, but no halves of one", "10.0.1.0/24 10.0.2.0/24", "10.0.1.0/24 10.0.2.0/24"},
		{"all", "0.0.0.0/0", "0.0.0.0/0"},
		{"all, by halves", "128.0.0.0/1 0.0.0.0/1", "0.0.0.0/0"},
		{"all, and more", "1.2.3.4/32 0.0.0.0/0 255.255.255.255/32", "0.0.0.0/0"},
		{"there twice", "10.0.0.0/24 10.0.0.0/24", "10.0.0.0/24"},
		{"there twice, not side by side", "10.0.0.0/24 9.0.0.0/8 10.0.0.0/24", "9.0.0.0/8 10.0.0.0/24"},
		{"one in the other", "10.0.0.0/24 10.0.0.7/32", "10.0.0.0/24"},
		{"one in the other, the smaller one first", "10.0.0.7/32 10.0.0.0/24", "10.0.0.0/24"},
		{"one in the other, with the same address", "10.0.0.0/32 10.0.0.0/24 10.0.0.0/8", "10.0.0.0/8"},
		{"the end of one within another", "10.0.0.0/8 10.0.0.0/24 11.0.0.0/8", "10.0.0.0/7"},
		{"falling", "12.0.0.0/8 9.0.0.0/8 1.0.0.0/8", "1.0.0.0/8 9.0.0.0/8 12.0.0.0/8"},
		{"halves of halves", "10.0.0.192/26 10.0.0.0/25 10.0.0.128/26", "10.0.0.0/24"},
		{"three quarters", "10.0.0.64/26 10.0.0.128/26 10.0.0.192/26", "10.0.0.64/26 10.0.0.128/25"},
		{"the first and the last address", "255.255.255.255/32 0.0.0.0/32", "0.0.0.0/32 255.255.255.255/32"},
		{"up to the last address", "255.255.255.254/32 255.255.255.255/32", "255.255.255.254/31"},
		{"from the first address", "0.0.0.1/32 0.0.0.0/32 0.0.0.2/32", "0.0.0.0/31 0.0.0.2/32"},
	} {
		got, err := set.Norm(list(t, c.in))
		if told(got) != c.want || err != nil {
			t.Errorf("%s: Norm(%s) = %s, %v, want %s", c.name, c.in, told(got), err, c.want)
		}
	}
}

func TestOrAndNot(t *testing.T) {
	for _, c := range []struct{ a, b, or, and, not string }{
		{"", "", "", "", ""},
		{"10.0.0.0/8", "", "10.0.0.0/8", "", "10.0.0.0/8"},
		{"", "10.0.0.0/8", "10.0.0.0/8", "", ""},
		{"10.0.0.0/8", "10.0.0.0/8", "10.0.0.0/8", "10.0.0.0/8", ""},
		{"10.0.0.128/25", "10.0.0.0/25", "10.0.0.0/24", "", "10.0.0.128/25"},
		{"10.0.0.0/24", "10.0.0.0/25", "10.0.0.0/24", "10.0.0.0/25", "10.0.0.128/25"},
		{"10.0.0.0/25", "10.0.0.0/24", "10.0.0.0/24", "10.0.0.0/25", ""},
		{"0.0.0.0/0", "128.0.0.0/1", "0.0.0.0/0", "128.0.0.0/1", "0.0.0.0/1"},
		{"0.0.0.0/0", "0.0.0.0/0", "0.0.0.0/0", "0.0.0.0/0", ""},
		{"0.0.0.0/0", "0.0.0.0/1 128.0.0.0/1", "0.0.0.0/0", "0.0.0.0/0", ""},
		{"10.0.0.0/24 10.0.1.0/24", "10.0.0.128/25 10.0.1.0/25", "10.0.0.0/23", "10.0.0.128/25 10.0.1.0/25", "10.0.0.0/25 10.0.1.128/25"},
		{"10.0.0.128/25 10.0.0.0/25", "10.0.0.64/26 10.0.0.64/26", "10.0.0.0/24", "10.0.0.64/26", "10.0.0.0/26 10.0.0.128/25"},
		{"10.0.0.0/26 10.0.0.128/26", "10.0.0.64/26 10.0.0.192/26", "10.0.0.0/24", "", "10.0.0.0/26 10.0.0.128/26"},
		{"0.0.0.0/32 255.255.255.255/32", "255.255.255.254/31", "0.0.0.0/32 255.255.255.254/31", "255.255.255.255/32", "0.0.0.0/32"},
		{"10.0.0.0/25 10.0.0.128/25", "10.0.0.0/24 11.0.0.0/8", "10.0.0.0/24 11.0.0.0/8", "10.0.0.0/24", ""},
	} {
		a, b := list(t, c.a), list(t, c.b)
		or, errOr := set.Or(a, b)
		and, errAnd := set.And(a, b)
		not, errNot := set.Not(a, b)
		if told(or) != c.or || told(and) != c.and || told(not) != c.not || errOr != nil || errAnd != nil || errNot != nil {
			t.Errorf("of %q and %q: or %q %v, and %q %v, not %q %v", c.a, c.b, told(or), errOr, told(and), errAnd, told(not), errNot)
		}
	}
}

// All but one address is the most that one hole can leave: a prefix of every Len.
func TestNotWithOneHole(t *testing.T) {
	for _, a := range []int{0, 1, 0x01020304, 1<<31 - 1, 1 << 31, last - 1, last} {
		got, err := set.Not([]api.Prefix{{}}, []api.Prefix{{Addr: a, Len: 32}})
		n, errN := set.Count(got)
		if len(got) != 32 || n != last || set.Has(got, a) || err != nil || errN != nil {
			t.Errorf("all but %d: %d prefixes with %d addresses, %v, %v", a, len(got), n, err, errN)
		}
	}
}

func TestHas(t *testing.T) {
	l := list(t, "10.0.0.0/31 10.0.0.4/32 255.255.255.255/32")
	for a, want := range map[int]bool{
		10<<24 - 1: false, 10 << 24: true, 10<<24 + 1: true, 10<<24 + 2: false, 10<<24 + 3: false, 10<<24 + 4: true, 10<<24 + 5: false,
		0: false, last: true, last - 1: false, last + 1: false, -1: false, 10<<24 + 1<<32: false, 10<<24 - 1<<32: false,
	} {
		if got := set.Has(l, a); got != want {
			t.Errorf("Has of %d: %v", a, got)
		}
	}
	all := []api.Prefix{{}}
	for a, want := range map[int]bool{0: true, last: true, last + 1: false, -1: false} {
		if set.Has(all, a) != want || set.Has(nil, a) || set.Has([]api.Prefix{}, a) {
			t.Errorf("%d in all: %v; in nothing: %v", a, set.Has(all, a), set.Has(nil, a))
		}
	}
	// A wrong prefix has no address; those beside it have theirs.
	wrong := []api.Prefix{{Addr: 1}, {Len: -1}, {Addr: 7, Len: 31}, {Addr: 9, Len: 32}, {Len: 33}}
	if set.Has(wrong, 0) || set.Has(wrong, 1) || set.Has(wrong, 7) || !set.Has(wrong, 9) {
		t.Error("wrong prefixes do not have what they should")
	}
}

func TestCount(t *testing.T) {
	for in, want := range map[string]int{
		"":                                    0,
		"10.0.0.0/24":                         256,
		"10.0.0.0/24 10.0.0.0/24":             256,
		"10.0.0.0/24 10.0.0.7/32":             256,
		"10.0.0.7/32 10.0.0.0/24 10.0.1.0/24": 512,
		"10.0.0.0/25 10.0.0.128/25":           256,
		"10.0.0.0/32 10.0.0.2/32":             2,
		"0.0.0.0/0":                           1 << 32,
		"128.0.0.0/1 0.0.0.0/1":               1 << 32,
		"0.0.0.0/0 0.0.0.0/0 1.0.0.0/8":       1 << 32,
		"255.255.255.255/32":                  1,
	} {
		if got, err := set.Count(list(t, in)); got != want || err != nil {
			t.Errorf("Count(%s) = %d, %v, want %d", in, got, err, want)
		}
	}
}

// model of what is in two lists, from the whole down by halves, where each address is asked for with its two answers; no spans.
func model(p api.Prefix, a, b []api.Prefix, asked func(inA, inB bool) bool) []api.Prefix {
	wholeA, someA := lies(p, a)
	wholeB, someB := lies(p, b)
	if wholeA == someA && wholeB == someB {
		if asked(wholeA, wholeB) {
			return []api.Prefix{p}
		}
		return nil
	}
	lo := api.Prefix{Addr: p.Addr, Len: p.Len + 1}
	hi := api.Prefix{Addr: p.Addr + 1<<(31-p.Len), Len: p.Len + 1}
	x, y := model(lo, a, b, asked), model(hi, a, b, asked)
	if len(x) == 1 && len(y) == 1 && x[0] == lo && y[0] == hi {
		return []api.Prefix{p}
	}
	return append(x, y...)
}

// lies: is a prefix in one of a list, and is there one of the list that has something of it?
func lies(p api.Prefix, l []api.Prefix) (whole, some bool) {
	for _, q := range l {
		whole = whole || ip.In(p, q)
		some = some || ip.In(p, q) || ip.In(q, p)
	}
	return whole, some
}

func someList(r *rand.Rand) []api.Prefix {
	l := make([]api.Prefix, r.Intn(9))
	// Few bits make halves, and things that are there twice, likely.
	base, free := []int{0, 10 << 24, 1 << 31, last &^ 31}[r.Intn(4)], 1+r.Intn(5)
	for i := range l {
		n := 32 - r.Intn(free+1)
		a := base + r.Intn(1<<free)
		if r.Intn(12) == 0 {
			n, a = r.Intn(33), r.Intn(last+1)
		}
		l[i] = api.Prefix{Addr: a >> (32 - n) << (32 - n), Len: n}
	}
	return l
}

func TestAgainstModel(t *testing.T) {
	r := rand.New(rand.NewSource(2))
	for range 20000 {
		a, b := someList(r), someList(r)
		for name, c := range map[string]struct {
			call  func(a, b []api.Prefix) ([]api.Prefix, error)
			asked func(inA, inB bool) bool
		}{
			"norm": {func(a, _ []api.Prefix) ([]api.Prefix, error) { return set.Norm(a) }, func(inA, _ bool) bool { return inA }},
			"or":   {set.Or, func(inA, inB bool) bool { return inA || inB }},
			"and":  {set.And, func(inA, inB bool) bool { return inA && inB }},
			"not":  {set.Not, func(inA, inB bool) bool { return inA && !inB }},
		} {
			got, err := c.call(a, b)
			want := model(api.Prefix{}, a, b, c.asked)
			if !slices.Equal(got, want) || err != nil {
				t.Fatalf("%s of %s and %s: %s, %v, want %s", name, told(a), told(b), told(got), err, told(want))
			}
			size := 0
			for _, p := range want {
				size += ip.Size(p)
			}
			if n, err := set.Count(got); n != size || err != nil {
				t.Fatalf("Count(%s) = %d, %v, want %d", told(got), n, err, size)
			}
		}
	}
}

// P22, on every set of the sixteen addresses at a place: with all that it has, and no two halves of one.
func TestAlwaysNormal(t *testing.T) {
	for _, base := range []int{0, 10 << 24, last - 15} {
		for members := range 1 << 16 {
			var l []api.Prefix
			for i := 15; i >= 0; i-- {
				if members>>i&1 == 1 {
					l = append(l, api.Prefix{Addr: base + i, Len: 32})
				}
			}
			got, err := set.Norm(l)
			if err != nil {
				t.Fatal(err)
			}
			checkNormal(t, got)
			for i := -1; i <= 16; i++ {
				if want := i >= 0 && i < 16 && members>>i&1 == 1; set.Has(got, base+i) != want {
					t.Fatalf("%s: has %d: %v", told(got), base+i, !want)
				}
			}
			if n, err := set.Count(got); n != len(l) || err != nil {
				t.Fatalf("%s has %d, %v, not %d", told(got), n, err, len(l))
			}
		}
	}
}

// checkNormal: rising, none in another one, and no two halves of one.
func checkNormal(t *testing.T, l []api.Prefix) {
	t.Helper()
	for i := 1; i < len(l); i++ {
		x, y := l[i-1], l[i]
		if !ip.Less(x, y) || ip.In(y, x) || ip.In(x, y) {
			t.Fatalf("%s: %s and %s", told(l), ip.Text(x), ip.Text(y))
		}
		upX, errX := ip.Up(x)
		upY, errY := ip.Up(y)
		if errX == nil && errY == nil && upX == upY {
			t.Fatalf("%s: %s and %s are halves of one", told(l), ip.Text(x), ip.Text(y))
		}
	}
}
