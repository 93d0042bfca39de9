package attr_test

import (
	"fmt"
	"math"
	"slices"
	"testing"

	"herepath/api"
	"herepath/attr"
)

// The faces stay as given.
var (
	_ func(api.Attr) error                       = attr.Check
	_ func(api.Attr) string                      = attr.Text
	_ func(string) (api.Attr, error)             = attr.Read
	_ func() api.Attr                            = attr.Own
	_ func(api.Attr, int, int) (api.Attr, error) = attr.Lead
	_ func(api.Attr, int) (api.Attr, error)      = attr.Tag
	_ func(api.Attr, int) bool                   = attr.Through
	_ func(api.Attr, api.Attr) bool              = attr.Same
)

// fault that is wanted: no place below 0.
type fault struct {
	at  int
	err error
}

func (f fault) check(t *testing.T, what string, got error) {
	t.Helper()
	if f.err == nil || f.at < 0 {
		checkBare(t, what, got, f.err)
		return
	}
	if x, ok := got.(*api.Fault); !ok || x.At != f.at || x.Err != f.err {
		t.Errorf("%s: error %#v, want %v at %d", what, got, f.err, f.at)
	}
}

// checkBare: an error without a place, not wrapped (P3).
func checkBare(t *testing.T, what string, got, want error) {
	t.Helper()
	if got != want {
		t.Errorf("%s: error %#v, want %v, bare", what, got, want)
	}
}

// checkNothing: with an error, every other result is its zero value (P3).
func checkNothing(t *testing.T, what string, a api.Attr) {
	t.Helper()
	if len(a.Path) != 0 || len(a.Tags) != 0 || a.Pref != 0 || a.Med != 0 || a.Origin != 0 {
		t.Errorf("%s: %v with an error", what, a)
	}
}

// times: a number, so many times.
func times(n, count int) []int { return slices.Repeat([]int{n}, count) }

// rising: so many numbers that rise from one on.
func rising(from, count int) []int {
	l := make([]int, count)
	for i := range l {
		l[i] = from + i
	}
	return l
}

// same as another one, asked without the package.
func same(a, b api.Attr) bool {
	return fmt.Sprint(a.Path, a.Tags) == fmt.Sprint(b.Path, b.Tags) && a.Pref == b.Pref && a.Med == b.Med && a.Origin == b.Origin
}

// rightAttrs: at the edges of all that is bound, and between.
func rightAttrs() []api.Attr {
	paths := [][]int{nil, {}, {1}, {1000}, {5, 5}, {1, 1000, 1}, {9, 3, 7, 3}, rising(1, 11), rising(989, 12), times(1000, 12)}
	tags := [][]int{nil, {}, {1}, {9999}, {1, 2}, {9998, 9999}, {7, 70, 700, 7000}, rising(1, 7), rising(9992, 8)}
	var l []api.Attr
	for _, p := range paths {
		for _, g := range tags {
			for _, pref := range []int{0, 1, 100, 999, 1000} {
				for _, med := range []int{0, 1, 1000} {
					for origin := range 3 {
						l = append(l, api.Attr{Path: p, Pref: pref, Med: med, Origin: origin, Tags: g})
					}
				}
			}
		}
	}
	return l
}

func TestCheckRight(t *testing.T) {
	for _, a := range rightAttrs() {
		checkBare(t, fmt.Sprint(a), attr.Check(a), nil)
	}
	for n := range 13 {
		checkBare(t, fmt.Sprint("a path of ", n), attr.Check(api.Attr{Path: times(7, n)}), nil)
	}
	for n := range 9 {
		checkBare(t, fmt.Sprint("tags ", n), attr.Check(api.Attr{Tags: rising(7, n)}), nil)
	}
	checkBare(t, "nothing at all", attr.Check(api.Attr{}), nil)
}

var (
	notSystems = []int{0, -1, -2, 1001, 1002, 9999, math.MinInt, math.MaxInt, 1 << 32, 1<<32 + 1, -1 << 32}
	notTags    = []int{0, -1, -2, 10000, 10001, 99999, math.MinInt, math.MaxInt, 1 << 32, 1<<32 + 1, -1 << 32}
	notNums    = []int{-1, -2, -1000, 1001, 1002, 9999, math.MinInt, math.MaxInt, 1 << 32, 1<<32 + 1}
	notOrigins = []int{-1, -2, 3, 4, 1000, math.MinInt, math.MaxInt, 1 << 32, 1<<32 + 1}
)

func TestCheckEachBound(t *testing.T) {
	ask := func(a api.Attr, at int, want error) {
		t.Helper()
		fault{at, want}.check(t, fmt.Sprint(a), attr.Check(a))
	}
	for _, n := range notSystems {
		for at := range 12 {
			path := times(7, 12)
			path[at] = n
			ask(api.Attr{Path: path}, at, api.ErrBound)
			ask(api.Attr{Path: path[:at+1]}, at, api.ErrBound)
			path[11] = 0 // one more behind it
			ask(api.Attr{Path: path}, at, api.ErrBound)
		}
	}
	for _, n := range notTags {
		for at := range 8 {
			tags := rising(7, 8)
			tags[at] = n
			ask(api.Attr{Tags: tags}, at, api.ErrBound)
			ask(api.Attr{Tags: tags[:at+1]}, at, api.ErrBound)
		}
	}
	for _, n := range notNums {
		ask(api.Attr{Pref: n}, -1, api.ErrBound)
		ask(api.Attr{Med: n}, -1, api.ErrBound)
	}
	for _, n := range notOrigins {
		ask(api.Attr{Origin: n}, -1, api.ErrBound)
	}
}

func TestCheckTagsRise(t *testing.T) {
	for _, c := range []struct {
		tags []int
		want fault
	}{
		{[]int{1, 2, 3}, fault{}},
		{[]int{5, 5}, fault{1, api.ErrOrder}},
		{[]int{5, 4}, fault{1, api.ErrOrder}},
		{[]int{9999, 1}, fault{1, api.ErrOrder}},
		{[]int{5, 7, 6}, fault{2, api.ErrOrder}},
		{[]int{5, 7, 5}, fault{2, api.ErrOrder}},
		{[]int{1, 2, 3, 4, 5, 6, 7, 7}, fault{7, api.ErrOrder}},
		{[]int{3, 2, 1}, fault{1, api.ErrOrder}},
		// The first place counts, then the first that is named.
		{[]int{5, 5, 0}, fault{1, api.ErrOrder}},
		{[]int{5, 0, 0}, fault{1, api.ErrBound}},
		{[]int{5, -1}, fault{1, api.ErrBound}},
		{[]int{0, 0}, fault{0, api.ErrBound}},
		{[]int{10000, 5}, fault{0, api.ErrBound}},
		{[]int{5, 10000, 10000}, fault{1, api.ErrBound}},
	} {
		c.want.check(t, fmt.Sprint(c.tags), attr.Check(api.Attr{Tags: c.tags}))
	}
}

// wrongAttr with what is wrong with it.
type wrongAttr struct {
	a    api.Attr
	want fault
}

// part of what is told: a value, and what is wrong with it alone.
type part struct {
	l    []int
	want fault
}

// wrongAttrs: all choices of a path, of numbers and of tags with at least one that is wrong; the errors in the order of the chapter's sentence.
func wrongAttrs() []wrongAttr {
	full := fault{-1, api.ErrFull}
	paths := []part{
		{nil, fault{}}, {[]int{1, 1000}, fault{}}, {times(7, 12), fault{}},
		{[]int{0}, fault{0, api.ErrBound}}, {[]int{7, 1001, 0}, fault{1, api.ErrBound}}, {append(times(7, 11), -1), fault{11, api.ErrBound}},
		{times(7, 13), full}, {times(0, 13), full}, {times(-1, 100), full},
	}
	nums := []part{
		{[]int{0, 0, 0}, fault{}}, {[]int{1000, 1000, 2}, fault{}},
		{[]int{-1, 0, 0}, fault{-1, api.ErrBound}}, {[]int{1001, 0, 0}, fault{-1, api.ErrBound}}, {[]int{0, -1, 0}, fault{-1, api.ErrBound}},
		{[]int{0, 1001, 0}, fault{-1, api.ErrBound}}, {[]int{0, 0, -1}, fault{-1, api.ErrBound}}, {[]int{0, 0, 3}, fault{-1, api.ErrBound}},
	}
	tags := []part{
		{nil, fault{}}, {[]int{1, 9999}, fault{}}, {rising(7, 8), fault{}},
		{[]int{0}, fault{0, api.ErrBound}}, {[]int{7, 10000}, fault{1, api.ErrBound}}, {[]int{7, 7}, fault{1, api.ErrOrder}}, {[]int{7, 8, 6, 0}, fault{2, api.ErrOrder}},
		{rising(7, 9), full}, {times(0, 9), full}, {times(5, 100), full},
	}
	var l []wrongAttr
	for _, p := range paths {
		for _, n := range nums {
			for _, g := range tags {
				a := api.Attr{Path: p.l, Pref: n.l[0], Med: n.l[1], Origin: n.l[2], Tags: g.l}
				want := fault{}
				switch {
				case p.want == full || g.want == full:
					want = full
				case p.want.err != nil:
					want = p.want
				case n.want.err != nil:
					want = n.want
				default:
					want = g.want
				}
				if want.err != nil {
					l = append(l, wrongAttr{a, want})
				}
			}
		}
	}
	return l
}

func TestCheckTellsTheFirst(t *testing.T) {
	for _, c := range wrongAttrs() {
		c.want.check(t, fmt.Sprint(c.a), attr.Check(c.a))
	}
}
