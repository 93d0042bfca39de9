package rule_test

import (
	"fmt"
	"math"
	"slices"
	"testing"

	"herepath/api"
	"herepath/rule"
)

// The faces stay as given.
var (
	_ func([]api.Rule) error                                              = rule.Check
	_ func(api.Rule, api.Prefix, api.Attr) bool                           = rule.Fits
	_ func([]api.Rule, int, api.Prefix, api.Attr) (api.Attr, bool, error) = rule.Apply
)

// fault that is wanted: no place below 0.
type fault struct {
	at  int
	err error
}

var right = fault{-1, nil}

func bare(err error) fault { return fault{-1, err} }

func (f fault) check(t *testing.T, what string, got error) {
	t.Helper()
	if f.at < 0 {
		if got != f.err {
			t.Errorf("%s: error %#v, want %v, bare", what, got, f.err)
		}
		return
	}
	if x, ok := got.(*api.Fault); !ok || x.At != f.at || x.Err != f.err {
		t.Errorf("%s: error %#v, want %v at %d", what, got, f.err, f.at)
	}
}

func wantCheck(t *testing.T, l []api.Rule, want fault) {
	t.Helper()
	want.check(t, fmt.Sprintf("Check %.500s", fmt.Sprint(l)), rule.Check(l))
}

// open rule: it fits all, and changes nothing.
func open() api.Rule { return api.Rule{Hi: 32, Pref: -1, Med: -1} }

// with a change, a rule that fits all else.
func with(change func(r *api.Rule)) api.Rule {
	r := open()
	change(&r)
	return r
}

// field of a rule, and its bounds.
type field struct {
	name     string
	of       func(r *api.Rule) *int
	from, to int
}

func fields() []field {
	return []field{
		{"Hi", func(r *api.Rule) *int { return &r.Hi }, 0, 32},
		{"Tag", func(r *api.Rule) *int { return &r.Tag }, 0, 9999},
		{"AS", func(r *api.Rule) *int { return &r.AS }, 0, 1000},
		{"Pref", func(r *api.Rule) *int { return &r.Pref }, -1, 1000},
		{"Med", func(r *api.Rule) *int { return &r.Med }, -1, 1000},
		{"Add", func(r *api.Rule) *int { return &r.Add }, 0, 9999},
		{"Lead", func(r *api.Rule) *int { return &r.Lead }, 0, 12},
	}
}

// numbersAround all bounds, and some whose low 32 bits look as if they were within.
var numbersAround = []int{math.MinInt, math.MinInt + 1, -1 << 32, math.MinInt32, -1001, -33, -13, -3, -2, -1, 0, 1, 2, 11, 12, 13, 14, 31, 32, 33, 34, 999, 1000, 1001, 1002, 9998, 9999, 10000, 10001, math.MaxInt32, 1 << 32, 1<<32 + 1, 1 << 62, math.MaxInt - 1, math.MaxInt}

func TestCheckRight(t *testing.T) {
	wantCheck(t, nil, right)
	wantCheck(t, []api.Rule{}, right)
	wantCheck(t, []api.Rule{{}}, right)
	wantCheck(t, []api.Rule{open()}, right)
	wantCheck(t, []api.Rule{{Within: api.Prefix{Addr: 1<<32 - 1, Len: 32}, Lo: 32, Hi: 32, Tag: 9999, AS: 1000, Deny: true, Pref: 1000, Med: 1000, Add: 9999, Lead: 12}}, right)
}

// Each field at each number, at each place of ten rules.
func TestCheckEachField(t *testing.T) {
	for _, f := range fields() {
		for _, n := range numbersAround {
			for at := range 10 {
				l := slices.Repeat([]api.Rule{open()}, 10)
				*f.of(&l[at]) = n
				want := right
				if n < f.from || n > f.to {
					want = fault{at, api.ErrBound}
				}
				wantCheck(t, l, want)
				wantCheck(t, l[:at+1], want)
				// Whether it denies does not count.
				l[at].Deny = true
				wantCheck(t, l, want)
			}
		}
	}
}

func TestCheckLoAndHi(t *testing.T) {
	for _, lo := range numbersAround {
		for _, hi := range numbersAround {
			want := right
			if lo < 0 || lo > hi || hi > 32 {
				want = fault{1, api.ErrBound}
			}
			wantCheck(t, []api.Rule{open(), with(func(r *api.Rule) { r.Lo, r.Hi = lo, hi })}, want)
		}
	}
	for lo := -1; lo < 35; lo++ {
		for hi := -1; hi < 35; hi++ {
			want := right
			if lo < 0 || lo > hi || hi > 32 {
				want = fault{0, api.ErrBound}
			}
			// Within's own Len does not count.
			for _, n := range []int{0, 8, 32} {
				wantCheck(t, []api.Rule{with(func(r *api.Rule) { r.Within.Len, r.Lo, r.Hi = n, lo, hi })}, want)
			}
		}
	}
}

// notPrefixes: each bound of a prefix, and a bit behind its first Len.
var notPrefixes = []struct {
	p   api.Prefix
	err error
}{
	{api.Prefix{Addr: -1}, api.ErrBound},
	{api.Prefix{Addr: 1<<32 + 1, Len: 32}, api.ErrBound},
	{api.Prefix{Len: -1}, api.ErrBound},
	{api.Prefix{Len: 33}, api.ErrBound},
	{api.Prefix{Addr: math.MaxInt, Len: math.MinInt}, api.ErrBound},
	{api.Prefix{Addr: 1, Len: 31}, api.ErrShape},
	{pre("10.0.0.0/6"), api.ErrShape},
}

// Within is told ahead of all else that is wrong with the same rule.
func TestCheckWithin(t *testing.T) {
	for _, c := range notPrefixes {
		for at := range 10 {
			l := slices.Repeat([]api.Rule{open()}, 10)
			l[at].Within = c.p
			wantCheck(t, l, fault{at, c.err})
			wantCheck(t, l[:at+1], fault{at, c.err})
			for _, f := range fields() {
				*f.of(&l[at]) = f.to + 1
				wantCheck(t, l, fault{at, c.err})
			}
		}
	}
}

func TestCheckMaxRules(t *testing.T) {
	for count := range 30 {
		l := slices.Repeat([]api.Rule{open()}, count)
		want := right
		if count > 10 {
			want = bare(api.ErrFull)
		}
		wantCheck(t, l, want)
		if count <= 10 {
			continue
		}
		// Too many are told ahead of what is wrong at a place.
		l[0].Lead, l[count-1].Within.Len = -1, 33
		wantCheck(t, l, want)
	}
}

// The first place counts, whatever is wrong there.
func TestCheckTellsTheFirstPlace(t *testing.T) {
	bound := with(func(r *api.Rule) { r.Lead = 13 })
	shape := with(func(r *api.Rule) { r.Within.Addr = 1 })
	for first := range 10 {
		for second := first + 1; second < 10; second++ {
			l := slices.Repeat([]api.Rule{open()}, 10)
			l[first], l[second] = bound, shape
			wantCheck(t, l, fault{first, api.ErrBound})
			l[first], l[second] = shape, bound
			wantCheck(t, l, fault{first, api.ErrShape})
		}
	}
}
