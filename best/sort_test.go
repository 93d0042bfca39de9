package best_test

import (
	"math/rand"
	"slices"
	"testing"

	"herepath/api"
	"herepath/best"
)

func wantBest(t *testing.T, l []api.Route, want api.Route) {
	t.Helper()
	if got, is := best.Best(l); spell(got) != spell(want) || !is {
		t.Errorf("Best(%v) = %v, %v, want %v", l, got, is, want)
	}
}

func wantSort(t *testing.T, l, want []api.Route) {
	t.Helper()
	if got := best.Sort(l); spell(got) != spell(want) {
		t.Errorf("Sort(%v) = %v, want %v", l, got, want)
	}
}

// both of a list that is told with the better ones first.
func wantBoth(t *testing.T, l, want []api.Route) {
	t.Helper()
	wantBest(t, l, want[0])
	wantSort(t, l, want)
}

// orders: all that a list may stand in.
func orders(l []api.Route) [][]api.Route {
	if len(l) == 0 {
		return [][]api.Route{nil}
	}
	var out [][]api.Route
	for at, r := range l {
		rest := slices.Delete(slices.Clone(l), at, at+1)
		for _, o := range orders(rest) {
			out = append(out, append([]api.Route{r}, o...))
		}
	}
	return out
}

func TestNoRoutes(t *testing.T) {
	for _, l := range [][]api.Route{nil, {}, make([]api.Route, 0, 9), behind(nil, some())} {
		if r, is := best.Best(l); is || spell(r) != spell(api.Route{}) || r.Attr.Path != nil || r.Attr.Tags != nil {
			t.Errorf("Best of none: %v, %v", r, is)
		}
		if got := best.Sort(l); len(got) != 0 {
			t.Errorf("Sort of none: %v", got)
		}
	}
}

func TestOneRoute(t *testing.T) {
	for _, r := range []api.Route{{}, some(), {From: -1}, {Attr: api.Attr{Pref: -5, Tags: []int{3, 2, 1}}}} {
		wantBoth(t, []api.Route{r}, []api.Route{r})
	}
}

func TestTwoRoutes(t *testing.T) {
	for _, x := range things() {
		a, b := some(), some()
		x.set(&a, 3)
		x.set(&b, 4)
		if x.more {
			a, b = b, a
		}
		want := []api.Route{a, b}
		wantBoth(t, []api.Route{a, b}, want)
		wantBoth(t, []api.Route{b, a}, want)
	}
}

// What is told twice stays twice, beside others.
func TestToldTwice(t *testing.T) {
	a, b := some(), some()
	a.Attr.Pref++
	wantBoth(t, []api.Route{b, b}, []api.Route{b, b})
	wantBoth(t, []api.Route{b, twin(b)}, []api.Route{b, b})
	for _, l := range orders([]api.Route{a, b, twin(a), b}) {
		wantBoth(t, l, []api.Route{a, a, b, b})
	}
}

// rung routes, each better than the next one, each by another thing; the last ones are alike.
func rung() []api.Route {
	l := []api.Route{some()}
	for _, x := range things() {
		r := some()
		x.set(&r, 500)
		if x.name == "the Path's length" || x.name == "how many tags" {
			r = some()
			x.set(&r, 9)
		}
		l = append(l, r)
	}
	slices.SortFunc(l, func(a, b api.Route) int {
		if betterModel(a, b) {
			return -1
		}
		return 1
	})
	return append(l, l[len(l)-1])
}

// P71: in any order.
func TestInAnyOrder(t *testing.T) {
	all := rung()
	for from := 0; from+6 <= len(all); from++ {
		want := all[from : from+6]
		for _, l := range orders(want) {
			wantBoth(t, l, want)
		}
	}
	r := rand.New(rand.NewSource(3))
	for range 3000 {
		l := slices.Clone(all)
		r.Shuffle(len(l), func(i, k int) { l[i], l[k] = l[k], l[i] })
		wantBoth(t, l, all)
	}
}

// P71, of what stands in no order known ahead: nothing is better than the best one, and the best one, which is one of them, comes first.
func TestInAnyOrderAtRandom(t *testing.T) {
	r := rand.New(rand.NewSource(4))
	for range 5000 {
		l := someRoutes(r, 20)
		sorted := best.Sort(l)
		wantRisingSame(t, l, sorted)
		first, is := best.Best(l)
		if is != (len(l) > 0) || is && spell(first) != spell(sorted[0]) {
			t.Fatalf("Best(%v) = %v, %v, of %v", l, first, is, sorted)
		}
		for range 3 {
			r.Shuffle(len(l), func(i, k int) { l[i], l[k] = l[k], l[i] })
			wantSort(t, l, sorted)
			if is {
				wantBest(t, l, first)
			}
		}
	}
}

// wantRisingSame: the same routes, each as often, none behind one that is less good.
func wantRisingSame(t *testing.T, l, sorted []api.Route) {
	t.Helper()
	count := map[string]int{}
	for _, r := range l {
		count[spell(r)]++
	}
	for at, r := range sorted {
		count[spell(r)]--
		if at > 0 && betterModel(r, sorted[at-1]) {
			t.Fatalf("%v is behind %v", r, sorted[at-1])
		}
	}
	for r, n := range count {
		if n != 0 {
			t.Fatalf("%s: %d times less than told", r, n)
		}
	}
}

// More routes than any table has: there is no bound.
func TestMany(t *testing.T) {
	var l, want []api.Route
	for n := range 5000 {
		r := some()
		r.Attr.Pref = n
		l = append(l, r)
	}
	want = slices.Clone(l)
	slices.Reverse(want)
	wantBoth(t, l, want)
	wantBoth(t, want, want)
}
