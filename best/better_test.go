package best_test

import (
	"fmt"
	"math"
	"math/rand"
	"slices"
	"testing"

	"herepath/api"
	"herepath/best"
)

// The faces stay as given.
var (
	_ func(a, b api.Route) bool             = best.Better
	_ func(l []api.Route) (api.Route, bool) = best.Best
	_ func(l []api.Route) []api.Route       = best.Sort
)

// some route, with lists of its own.
func some() api.Route {
	return api.Route{To: api.Prefix{Addr: 512, Len: 24}, Attr: api.Attr{Path: []int{5, 6}, Pref: 100, Med: 50, Origin: 1, Tags: []int{5, 50}}, From: 7}
}

// twin of a route: alike in all, with lists of its own.
func twin(r api.Route) api.Route {
	r.Attr.Path, r.Attr.Tags = slices.Clone(r.Attr.Path), slices.Clone(r.Attr.Tags)
	return r
}

// thing that two routes may differ in: a number of a route, or how long one of its lists is.
type thing struct {
	name string
	set  func(r *api.Route, n int)
	more bool // more is better
}

// A path of other numbers, if it is as long, and of other length: both are things of their own.
func things() []thing {
	return []thing{
		{"Pref", func(r *api.Route, n int) { r.Attr.Pref = n }, true},
		{"the Path's length", func(r *api.Route, n int) { r.Attr.Path = slices.Repeat([]int{9}, n) }, false},
		{"Origin", func(r *api.Route, n int) { r.Attr.Origin = n }, false},
		{"Med", func(r *api.Route, n int) { r.Attr.Med = n }, false},
		{"From", func(r *api.Route, n int) { r.From = n }, false},
		{"the path's first number", func(r *api.Route, n int) { r.Attr.Path = slices.Clone(r.Attr.Path); r.Attr.Path[0] = n }, false},
		{"the path's last number", func(r *api.Route, n int) {
			r.Attr.Path = slices.Clone(r.Attr.Path)
			r.Attr.Path[len(r.Attr.Path)-1] = n
		}, false},
		{"To's Addr", func(r *api.Route, n int) { r.To.Addr = n }, false},
		{"To's Len", func(r *api.Route, n int) { r.To.Len = n }, false},
		{"the first tag", func(r *api.Route, n int) { r.Attr.Tags = []int{n, 50} }, false},
		{"the last tag", func(r *api.Route, n int) { r.Attr.Tags = []int{5, n} }, false},
		{"how many tags", func(r *api.Route, n int) { r.Attr.Tags = slices.Repeat([]int{5}, n) }, false},
	}
}

// wantBetter: the first one is better, and the other one is not.
func wantBetter(t *testing.T, what string, a, b api.Route) {
	t.Helper()
	if !best.Better(a, b) || best.Better(b, a) {
		t.Errorf("%s: %v is to be better than %v: %v, turned around %v", what, a, b, best.Better(a, b), best.Better(b, a))
	}
}

func wantAlike(t *testing.T, what string, a, b api.Route) {
	t.Helper()
	if best.Better(a, b) || best.Better(b, a) {
		t.Errorf("%s: none of %v and %v is to be better", what, a, b)
	}
}

// pairs of numbers, the lesser one ahead; those of lengths are few, and not below 1.
func pairs(name string) [][2]int {
	if name == "the Path's length" || name == "how many tags" {
		return [][2]int{{1, 2}, {2, 3}, {1, 12}, {11, 12}, {12, 13}, {1, 300}}
	}
	return [][2]int{
		{0, 1}, {1, 2}, {9, 10}, {99, 100}, {2, 10}, {254, 256}, {255, 256}, {0, 1000}, {999, 1000}, {31, 32}, {8, 1 << 31}, {1<<32 - 2, 1<<32 - 1},
		{-1, 0}, {-2, -1}, {-1, 1}, {math.MinInt, math.MaxInt}, {math.MinInt, 0}, {0, math.MaxInt}, {math.MinInt, 1}, {-2, math.MaxInt}, {math.MinInt, math.MinInt + 1}, {math.MaxInt - 1, math.MaxInt}, {1, 1<<32 + 1}, {1<<32 - 1, 1 << 32},
	}
}

func TestBetterInOneThingAlone(t *testing.T) {
	for _, x := range things() {
		for _, n := range pairs(x.name) {
			a, b := some(), some()
			x.set(&a, n[0])
			x.set(&b, n[1])
			if x.more {
				a, b = b, a
			}
			wantBetter(t, x.name, a, b)
			wantAlike(t, x.name, a, twin(a))
			wantAlike(t, x.name, b, twin(b))
		}
	}
}

// What comes earlier counts alone, however much better all that comes later is.
func TestBetterByTheFirstDifference(t *testing.T) {
	all := things()
	for i, x := range all {
		for _, n := range pairs(x.name) {
			a, b := some(), some()
			a.Attr.Path, b.Attr.Path = []int{5, 6, 7}, []int{5, 6, 7}
			x.set(&a, n[0])
			x.set(&b, n[1])
			if x.more {
				a, b = b, a
			}
			for _, y := range all[i+1:] {
				if y.name == "the last tag" || y.name == "how many tags" {
					continue // these would take the first tag back
				}
				c, d := twin(a), twin(b)
				y.set(&c, 8)
				y.set(&d, 4)
				wantBetter(t, x.name+" ahead of "+y.name, c, d)
				a, b = c, d
			}
		}
	}
}

func TestBetterAlike(t *testing.T) {
	for _, r := range []api.Route{{}, some(), {From: 3}, {Attr: api.Attr{Path: []int{1}}}, {Attr: api.Attr{Tags: []int{1}}}, {To: api.Prefix{Addr: -1, Len: 99}, From: -4}} {
		wantAlike(t, "itself", r, r)
		wantAlike(t, "its twin", r, twin(r))
	}
}

func TestBetterPaths(t *testing.T) {
	rising := [][]int{
		nil, {-3}, {0}, {1}, {2}, {10}, {1000},
		{-1, 9}, {0, 0}, {1, 1}, {1, 2}, {1, 10}, {1, 100}, {2, -1}, {2, 1}, {10, 1}, {math.MaxInt, math.MinInt},
		{1, 1, 1}, {1, 1, 2}, {1, 2, 1}, {2, 1, 1}, {5, 4, 3, 2, 1}, {5, 4, 3, 2, 2}, {5, 4, 9, 2, 1},
	}
	for i, p := range rising {
		for _, q := range rising[i+1:] {
			wantBetter(t, "paths", api.Route{Attr: api.Attr{Path: p}}, api.Route{Attr: api.Attr{Path: q}})
		}
	}
	// Of unlike length, what stands between counts ahead of the numbers; of like length, too.
	wantBetter(t, "shorter, of greater numbers", api.Route{From: 9, Attr: api.Attr{Path: []int{9}, Origin: 2, Med: 9}}, api.Route{Attr: api.Attr{Path: []int{1, 1}}})
	wantBetter(t, "From ahead of numbers", api.Route{From: 1, Attr: api.Attr{Path: []int{9, 9}}}, api.Route{From: 2, Attr: api.Attr{Path: []int{1, 1}}})
}

// Of tags, unlike paths, how many there are counts only of those that begin alike.
func TestBetterTags(t *testing.T) {
	rising := [][]int{
		nil, {math.MinInt}, {0}, {1}, {1, 1}, {1, 2}, {1, 2, 3, 4, 5, 6, 7, 8}, {1, 2, 3, 4, 5, 6, 7, 8, 9}, {1, 2, 4}, {1, 10}, {1, 9999},
		{2}, {2, 3}, {2, 3, 4}, {2, 4}, {3, 1}, {10}, {10, 11}, {100}, {math.MaxInt}, {math.MaxInt, math.MinInt},
	}
	for i, g := range rising {
		for _, h := range rising[i+1:] {
			wantBetter(t, "tags", api.Route{Attr: api.Attr{Tags: g}}, api.Route{Attr: api.Attr{Tags: h}})
		}
	}
}

// To comes by numbers: it is not asked whether it is a prefix.
func TestBetterTo(t *testing.T) {
	rising := []api.Prefix{{Addr: math.MinInt, Len: 40}, {Addr: -1, Len: 32}, {Addr: 0, Len: -1}, {}, {Addr: 0, Len: 32}, {Addr: 0, Len: 33}, {Addr: 1, Len: 0}, {Addr: 1, Len: 32}, {Addr: 10 << 24, Len: 8}, {Addr: 10 << 24, Len: 16}, {Addr: 10<<24 + 1<<16, Len: 15}, {Addr: 10<<24 + 1<<16, Len: 16}, {Addr: 1 << 32, Len: 0}}
	for i, p := range rising {
		for _, q := range rising[i+1:] {
			wantBetter(t, "prefixes", api.Route{To: p}, api.Route{To: q})
		}
	}
}

// The document's example.
func TestBetterExample(t *testing.T) {
	a := api.Route{Attr: api.Attr{Path: []int{2, 1}, Pref: 100}, From: 2}
	b := api.Route{Attr: api.Attr{Path: []int{4, 1}, Pref: 100}, From: 4}
	wantBetter(t, "told by 2 and by 4", a, b)
}

// difference of two lists, number by number, for the model.
func difference(a, b []int) int {
	for i := 0; i < len(a) && i < len(b); i++ {
		if a[i] < b[i] {
			return -1
		}
		if a[i] > b[i] {
			return 1
		}
	}
	return len(a) - len(b)
}

// betterModel: by the words of the chapter, one after the other.
func betterModel(a, b api.Route) bool {
	switch {
	case a.Attr.Pref != b.Attr.Pref:
		return a.Attr.Pref > b.Attr.Pref
	case len(a.Attr.Path) != len(b.Attr.Path):
		return len(a.Attr.Path) < len(b.Attr.Path)
	case a.Attr.Origin != b.Attr.Origin:
		return a.Attr.Origin < b.Attr.Origin
	case a.Attr.Med != b.Attr.Med:
		return a.Attr.Med < b.Attr.Med
	case a.From != b.From:
		return a.From < b.From
	case difference(a.Attr.Path, b.Attr.Path) != 0:
		return difference(a.Attr.Path, b.Attr.Path) < 0
	case a.To.Addr != b.To.Addr:
		return a.To.Addr < b.To.Addr
	case a.To.Len != b.To.Len:
		return a.To.Len < b.To.Len
	}
	return difference(a.Attr.Tags, b.Attr.Tags) < 0
}

func someList(r *rand.Rand, most int) []int {
	var l []int
	for range r.Intn(most + 1) {
		l = append(l, 1+r.Intn(2))
	}
	return l
}

// someRoute of few choices, so that many differ late, or not at all.
func someRoute(r *rand.Rand) api.Route {
	few := func() int { return r.Intn(8) / 6 }
	return api.Route{
		To:   api.Prefix{Addr: few() * 256, Len: 24 + few()},
		Attr: api.Attr{Path: someList(r, 2), Pref: 100 + few(), Med: few(), Origin: few(), Tags: someList(r, 2)},
		From: few(),
	}
}

func someRoutes(r *rand.Rand, most int) []api.Route {
	var l []api.Route
	for range r.Intn(most + 1) {
		l = append(l, someRoute(r))
	}
	return l
}

func spell(v any) string { return fmt.Sprint(v) }

func TestBetterAgainstModel(t *testing.T) {
	r := rand.New(rand.NewSource(1))
	for range 300000 {
		a, b := someRoute(r), someRoute(r)
		if got, want := best.Better(a, b), betterModel(a, b); got != want {
			t.Fatalf("Better(%v, %v) = %v, want %v", a, b, got, want)
		}
	}
}

// Of two unlike ones one is better, and of three the first is better than the last.
func TestBetterIsAnOrder(t *testing.T) {
	r := rand.New(rand.NewSource(2))
	for range 100000 {
		a, b, c := someRoute(r), someRoute(r), someRoute(r)
		if unlike := spell(a) != spell(b); unlike != (best.Better(a, b) != best.Better(b, a)) || best.Better(a, b) && best.Better(b, a) {
			t.Fatalf("%v and %v: %v, turned around %v", a, b, best.Better(a, b), best.Better(b, a))
		}
		if best.Better(a, b) && best.Better(b, c) && !best.Better(a, c) {
			t.Fatalf("%v, %v, %v", a, b, c)
		}
	}
}
