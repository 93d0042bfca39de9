package rib_test

import (
	"fmt"
	"math"
	"slices"
	"testing"

	"herepath/api"
	"herepath/rib"
)

func TestNew(t *testing.T) {
	for as, err := range map[int]error{0: api.ErrBound, 1: nil, 2: nil, 999: nil, 1000: nil, 1001: api.ErrBound, -1: api.ErrBound, math.MinInt: api.ErrBound, math.MaxInt: api.ErrBound, 1<<32 + 1: api.ErrBound} {
		r, got := rib.New(as)
		want(t, fmt.Sprint("New of ", as), got, err)
		if (r == nil) != (err != nil) {
			t.Errorf("New of %d: %v with %v", as, r, got)
		}
		if r != nil {
			holds(t, r, "")
			want(t, "Learn from oneself", r.Learn(as, nth(1), way()), api.ErrShape)
			want(t, "Learn through oneself", r.Learn(7, nth(1), way(3, as)), api.ErrLoop)
			want(t, "Learn through others", r.Learn(7, nth(1), way(3, 1001-as)), nil)
		}
	}
}

func TestLearnPeers(t *testing.T) {
	for peer, err := range map[int]error{0: api.ErrBound, 1: nil, 4: nil, 5: api.ErrShape, 6: nil, 999: nil, 1000: nil, 1001: api.ErrBound, -1: api.ErrBound, -5: api.ErrBound, math.MinInt: api.ErrBound, math.MaxInt: api.ErrBound, 1<<32 + 7: api.ErrBound} {
		r := fresh(t)
		want(t, fmt.Sprint("Learn of ", peer), r.Learn(peer, nth(1), way(9)), err)
		if err != nil {
			holds(t, r, "")
			told(t, r, peer, "")
			continue
		}
		holds(t, r, fmt.Sprint("0.0.1.0/24 9<", peer))
		told(t, r, peer, fmt.Sprint("0.0.1.0/24 9<", peer))
	}
}

func TestLearnPrefixes(t *testing.T) {
	for _, s := range []string{"0.0.0.0/0", "0.0.0.0/1", "128.0.0.0/1", "10.0.0.0/8", "10.1.2.0/31", "0.0.0.0/32", "255.255.255.255/32"} {
		r := fresh(t)
		learn(t, r, 7, s, way(7))
		is(t, r, s, "7<7")
		holds(t, r, s+" 7<7")
	}
	for p, err := range map[api.Prefix]error{
		{Addr: -1, Len: 32}: api.ErrBound, {Addr: last + 1, Len: 32}: api.ErrBound, {Len: -1}: api.ErrBound, {Len: 33}: api.ErrBound, {Addr: 1, Len: 33}: api.ErrBound,
		{Addr: 1, Len: 0}: api.ErrShape, {Addr: 1, Len: 31}: api.ErrShape, {Addr: last, Len: 31}: api.ErrShape, {Addr: 10<<24 + 1, Len: 8}: api.ErrShape,
	} {
		r := fresh(t)
		want(t, fmt.Sprint("Learn ", p), r.Learn(7, p, way(7)), err)
		want(t, fmt.Sprint("Own ", p), r.Own(p), err)
		want(t, fmt.Sprint("Lose ", p), r.Lose(7, p), api.ErrNone)
		want(t, fmt.Sprint("Disown ", p), r.Disown(p), api.ErrNone)
		if x, is := r.Best(p); is || fmt.Sprint(x) != fmt.Sprint(api.Route{}) {
			t.Errorf("Best of %v: %v", p, x)
		}
		holds(t, r, "")
	}
}

// Neighbours that are nested, or alike in their first bits, are told apart by all of a prefix.
func TestPrefixesAreApart(t *testing.T) {
	r := fresh(t)
	learn(t, r, 7, "10.0.0.0/8", way(7))
	own(t, r, "10.0.0.0/16")
	learn(t, r, 8, "10.0.0.0/9", way(8))
	holds(t, r, "10.0.0.0/8 7<7, 10.0.0.0/9 8<8, 10.0.0.0/16 -<0")
	is(t, r, "10.0.0.0/10", "")
	is(t, r, "10.0.0.0/32", "")
	want(t, "Lose of a wider one", r.Lose(8, prefix("10.0.0.0/8")), api.ErrNone)
	want(t, "Disown of a wider one", r.Disown(prefix("10.0.0.0/8")), api.ErrNone)
}

func TestLearnAttrs(t *testing.T) {
	for _, c := range []struct {
		a   api.Attr
		err error
	}{
		{api.Attr{}, nil},
		{api.Attr{Path: slices.Repeat([]int{1000}, 12), Pref: 1000, Med: 1000, Origin: 2, Tags: []int{1, 2, 3, 4, 5, 6, 7, 9999}}, nil},
		{api.Attr{Path: slices.Repeat([]int{1}, 13)}, api.ErrFull},
		{api.Attr{Tags: []int{1, 2, 3, 4, 5, 6, 7, 8, 9}}, api.ErrFull},
		{way(1, 0), api.ErrBound},
		{way(1001), api.ErrBound},
		{api.Attr{Pref: 1001}, api.ErrBound},
		{api.Attr{Pref: -1}, api.ErrBound},
		{api.Attr{Med: 1001}, api.ErrBound},
		{api.Attr{Origin: 3}, api.ErrBound},
		{api.Attr{Tags: []int{0}}, api.ErrBound},
		{api.Attr{Tags: []int{2, 10000}}, api.ErrBound},
		{api.Attr{Tags: []int{2, 2}}, api.ErrOrder},
		{api.Attr{Tags: []int{1, 3, 2}}, api.ErrOrder},
	} {
		r := fresh(t)
		learn(t, r, 7, "10.0.0.0/8", way(7, 1))
		// Bare: an error with a place would not be the one of package api itself.
		want(t, fmt.Sprint("Learn ", c.a), r.Learn(7, prefix("10.0.0.0/8"), c.a), c.err)
		if c.err != nil {
			holds(t, r, "10.0.0.0/8 7-1<7")
			continue
		}
		if got, is := r.Best(prefix("10.0.0.0/8")); !is || fmt.Sprint(got.Attr) != fmt.Sprint(c.a) {
			t.Errorf("Best: %v, want %v", got, c.a)
		}
	}
}

// What is told anew takes the place of what was told, better or not.
func TestLearnAnew(t *testing.T) {
	r := fresh(t)
	learn(t, r, 7, "10.0.0.0/8", way(7))
	learn(t, r, 8, "10.0.0.0/8", way(8, 2))
	is(t, r, "10.0.0.0/8", "7<7")
	learn(t, r, 7, "10.0.0.0/8", way(7, 3, 2))
	is(t, r, "10.0.0.0/8", "8-2<8")
	told(t, r, 7, "10.0.0.0/8 7-3-2<7")
	learn(t, r, 7, "10.0.0.0/8", way())
	is(t, r, "10.0.0.0/8", "-<7")
	learn(t, r, 7, "10.0.0.0/8", way())
	told(t, r, 7, "10.0.0.0/8 -<7")
}

func TestLoop(t *testing.T) {
	for _, path := range [][]int{{5}, {5, 1}, {7, 5}, {7, 5, 1}, {7, 1, 5}, {5, 5}, {1, 2, 3, 4, 6, 7, 8, 9, 10, 11, 12, 5}} {
		r := fresh(t)
		want(t, "a loop, of what was not told", r.Learn(7, prefix("10.0.0.0/8"), way(path...)), api.ErrLoop)
		holds(t, r, "")
		learn(t, r, 7, "10.0.0.0/8", way(7))
		learn(t, r, 7, "11.0.0.0/8", way(7))
		learn(t, r, 8, "10.0.0.0/8", way(8, 1))
		want(t, "a loop, of what was told by another one", r.Learn(9, prefix("10.0.0.0/8"), way(path...)), api.ErrLoop)
		holds(t, r, "10.0.0.0/8 7<7, 11.0.0.0/8 7<7")
		want(t, "a loop, of what was told", r.Learn(7, prefix("10.0.0.0/8"), way(path...)), api.ErrLoop)
		holds(t, r, "10.0.0.0/8 8-1<8, 11.0.0.0/8 7<7")
		told(t, r, 7, "11.0.0.0/8 7<7")
		want(t, "Lose behind a loop", r.Lose(7, prefix("10.0.0.0/8")), api.ErrNone)
		want(t, "a loop again", r.Learn(7, prefix("10.0.0.0/8"), way(path...)), api.ErrLoop)
	}
}

// Numbers that are alike but in their digits are none of one's own.
func TestNoLoop(t *testing.T) {
	r := fresh(t)
	learn(t, r, 7, "10.0.0.0/8", api.Attr{Path: []int{50, 55, 15, 500, 505, 4, 6}, Pref: 5, Med: 5, Tags: []int{5}})
	told(t, r, 7, "10.0.0.0/8 50-55-15-500-505-4-6<7")
}

// filled: a rib to which a neighbour told as much as it may.
func filled(t *testing.T, peer int) *rib.Rib {
	t.Helper()
	r := fresh(t)
	for n := range api.MaxRoutes {
		want(t, fmt.Sprint("Learn ", n), r.Learn(peer, nth(n), way(peer)), nil)
	}
	return r
}

func TestFull(t *testing.T) {
	r := filled(t, 7)
	if n := len(r.Told(7)); n != 60 {
		t.Error("told:", n)
	}
	want(t, "one more", r.Learn(7, nth(60), way(7)), api.ErrFull)
	want(t, "one more, again", r.Learn(7, nth(61), way(7)), api.ErrFull)
	is(t, r, "0.0.60.0/24", "")
	for n := range api.MaxRoutes {
		want(t, "told anew", r.Learn(7, nth(n), way(7, n+100)), nil)
	}
	is(t, r, "0.0.59.0/24", "7-159<7")
	want(t, "one of another", r.Learn(8, nth(60), way(8)), nil)
	want(t, "own", r.Own(nth(61)), nil)
	want(t, "one more of the first one", r.Learn(7, nth(60), way(7)), api.ErrFull)
	want(t, "Lose", r.Lose(7, nth(30)), nil)
	want(t, "now there is room", r.Learn(7, nth(60), way(7)), nil)
	want(t, "and no more", r.Learn(7, nth(30), way(7)), api.ErrFull)
	want(t, "a loop", r.Learn(7, nth(0), way(7, self)), api.ErrLoop)
	want(t, "room behind a loop", r.Learn(7, nth(30), way(7)), nil)
	if n := r.Down(7); n != 60 {
		t.Error("Down:", n)
	}
	want(t, "room behind Down", r.Learn(7, nth(70), way(7)), nil)
	told(t, r, 7, "0.0.70.0/24 7<7")
}

func TestFullOfEach(t *testing.T) {
	r := fresh(t)
	for peer := 1; peer <= 1000; peer++ {
		if peer == self {
			continue
		}
		for n := range api.MaxRoutes {
			if err := r.Learn(peer, nth(peer*100+n), way(peer)); err != nil {
				t.Fatal(peer, n, err)
			}
		}
	}
	if n := len(r.All()); n != 999*60 {
		t.Error("All:", n)
	}
}

// What is told ahead in the chapter is told first.
func TestLearnTellsTheFirstError(t *testing.T) {
	type part struct {
		set func(peer *int, to *api.Prefix, a *api.Attr)
		err error
	}
	// Each takes the place of a later one that it stands in the way of.
	l := []part{
		{func(peer *int, _ *api.Prefix, _ *api.Attr) { *peer = 0 }, api.ErrBound},
		{func(peer *int, _ *api.Prefix, _ *api.Attr) { *peer = self }, api.ErrShape},
		{func(_ *int, to *api.Prefix, _ *api.Attr) { *to = api.Prefix{Len: 33} }, api.ErrBound},
		{func(_ *int, to *api.Prefix, _ *api.Attr) { *to = api.Prefix{Addr: 1, Len: 8} }, api.ErrShape},
		{func(_ *int, _ *api.Prefix, a *api.Attr) { a.Tags = []int{9, 8, 7, 6, 5, 4, 3, 2, 1} }, api.ErrFull},
		{func(_ *int, _ *api.Prefix, a *api.Attr) { a.Pref = 2000 }, api.ErrBound},
		{func(_ *int, _ *api.Prefix, a *api.Attr) { a.Tags = []int{9, 8} }, api.ErrOrder},
		{func(_ *int, _ *api.Prefix, a *api.Attr) { a.Path = []int{self} }, api.ErrLoop},
	}
	for choice := range 1 << len(l) {
		// The neighbour has told of all that it may: that is the last error.
		r, peer, to, a, first := filled(t, 7), 7, nth(60), way(7), api.ErrFull
		for at := len(l) - 1; at >= 0; at-- {
			if choice>>at&1 == 1 {
				l[at].set(&peer, &to, &a)
				first = l[at].err
			}
		}
		before := whole(r)
		want(t, fmt.Sprint("Learn of ", peer, to, a), r.Learn(peer, to, a), first)
		if after := whole(r); after != before {
			t.Errorf("an error (%v) changes %s to %s", first, before, after)
		}
	}
}

func TestLose(t *testing.T) {
	r := fresh(t)
	want(t, "Lose of nothing", r.Lose(7, nth(1)), api.ErrNone)
	learn(t, r, 7, "0.0.1.0/24", way(7))
	learn(t, r, 8, "0.0.1.0/24", way(8, 1))
	learn(t, r, 7, "0.0.2.0/24", way(7))
	own(t, r, "0.0.3.0/24")
	for _, peer := range []int{9, 0, self, -7, 1007, math.MinInt, math.MaxInt} {
		want(t, fmt.Sprint("Lose of ", peer), r.Lose(peer, nth(1)), api.ErrNone)
		want(t, fmt.Sprint("Lose of ", peer), r.Lose(peer, nth(3)), api.ErrNone)
	}
	want(t, "Lose of what another one told", r.Lose(8, nth(2)), api.ErrNone)
	holds(t, r, "0.0.1.0/24 7<7, 0.0.2.0/24 7<7, 0.0.3.0/24 -<0")
	want(t, "Lose", r.Lose(7, nth(1)), nil)
	want(t, "Lose of what is lost", r.Lose(7, nth(1)), api.ErrNone)
	holds(t, r, "0.0.1.0/24 8-1<8, 0.0.2.0/24 7<7, 0.0.3.0/24 -<0")
	want(t, "Lose", r.Lose(8, nth(1)), nil)
	is(t, r, "0.0.1.0/24", "")
	want(t, "Lose", r.Lose(7, nth(2)), nil)
	holds(t, r, "0.0.3.0/24 -<0")
	learn(t, r, 7, "0.0.1.0/24", way(7, 3))
	told(t, r, 7, "0.0.1.0/24 7-3<7")
}

func TestDown(t *testing.T) {
	r := fresh(t)
	down := func(peer, want int) {
		t.Helper()
		if got := r.Down(peer); got != want {
			t.Errorf("Down of %d: %d, want %d", peer, got, want)
		}
	}
	for _, peer := range []int{7, 0, self, -1, 1000, 1001, math.MinInt, math.MaxInt} {
		down(peer, 0)
	}
	own(t, r, "0.0.1.0/24", "0.0.9.0/24")
	for n := range 20 {
		want(t, "Learn", r.Learn(7, nth(n), way(7)), nil)
	}
	learn(t, r, 8, "0.0.1.0/24", way(8))
	learn(t, r, 8, "0.0.2.0/24", way(8, 1))
	down(self, 0)
	down(0, 0)
	down(9, 0)
	if n := len(r.All()); n != 20 {
		t.Error("All:", n)
	}
	down(7, 20)
	down(7, 0)
	told(t, r, 7, "")
	holds(t, r, "0.0.1.0/24 -<0, 0.0.2.0/24 8-1<8, 0.0.9.0/24 -<0")
	want(t, "Lose behind Down", r.Lose(7, nth(3)), api.ErrNone)
	learn(t, r, 7, "0.0.3.0/24", way(7))
	down(7, 1)
	learn(t, r, 8, "0.0.2.0/24", way(8))
	want(t, "Lose", r.Lose(8, nth(1)), nil)
	down(8, 1)
	down(8, 0)
	holds(t, r, "0.0.1.0/24 -<0, 0.0.9.0/24 -<0")
}
