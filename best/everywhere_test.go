package best_test

import (
	"fmt"
	"math"
	"math/rand"
	"slices"
	"sync"
	"testing"

	"herepath/api"
	"herepath/best"
)

// tellAll asks every call of the package, and writes down what it answers.
func tellAll(l []api.Route) string {
	first, is := best.Best(l)
	out := fmt.Sprint(first, is, best.Sort(l))
	for i := range l {
		out += fmt.Sprint(best.Better(l[0], l[i]), best.Better(l[i], l[0]))
	}
	return out
}

// strange routes: no one asks whether what is told is right.
func strange() []api.Route {
	l := []api.Route{{}, some(), {Attr: api.Attr{Path: make([]int, 1<<16), Tags: make([]int, 1<<16)}}, {Attr: api.Attr{Tags: []int{9, 8, 8, -1}}}}
	for _, n := range []int{math.MinInt, math.MinInt + 1, -1 << 32, -1, 0, 1, 2, 13, 33, 1001, 10000, 1 << 32, math.MaxInt - 1, math.MaxInt} {
		l = append(l,
			api.Route{To: api.Prefix{Addr: n, Len: n}}, api.Route{To: api.Prefix{Addr: -n, Len: n}}, api.Route{From: n}, api.Route{Attr: api.Attr{Pref: n}}, api.Route{Attr: api.Attr{Med: n, Origin: -n}},
			api.Route{Attr: api.Attr{Path: []int{n}}}, api.Route{Attr: api.Attr{Path: []int{n, -n}, Tags: []int{-n, n}}}, api.Route{Attr: api.Attr{Tags: []int{n}}})
	}
	return l
}

// P1: a panic fails the test, and so does a call that does not end.
func TestNoCallPanics(t *testing.T) {
	l := strange()
	for _, a := range l {
		for _, b := range l {
			if got, want := best.Better(a, b), betterModel(a, b); got != want {
				t.Errorf("Better(%.200s, %.200s) = %v, want %v", spell(a), spell(b), got, want)
			}
		}
	}
	sorted := best.Sort(l)
	wantRisingSame(t, l, sorted)
	wantBest(t, l, sorted[0])
	wantBoth(t, sorted, sorted)
	best.Sort(make([]api.Route, 1<<16))
	best.Best(make([]api.Route, 1<<16))
}

// behind: the list in memory that goes on, with something else behind its length.
func behind[T any](l []T, more T) []T {
	return append(slices.Clone(l), slices.Repeat([]T{more}, 15)...)[:len(l)]
}

// withBehind: the same route, told in such memory.
func withBehind(r api.Route, more int) api.Route {
	r.Attr.Path, r.Attr.Tags = behind(r.Attr.Path, more), behind(r.Attr.Tags, more)
	return r
}

// fill all the memory of a list.
func fill[T any](l []T, with T) {
	for i := range l[:cap(l)] {
		l[:cap(l)][i] = with
	}
}

func scribble(r api.Route) {
	fill(r.Attr.Path, -9)
	fill(r.Attr.Tags, -9)
}

// whole: all the memory of what was handed over.
func whole(l []api.Route) string {
	out := ""
	for _, r := range l[:cap(l)] {
		out += fmt.Sprintln(r, r.Attr.Path[:cap(r.Attr.Path)], r.Attr.Tags[:cap(r.Attr.Tags)])
	}
	return out
}

// P3, P4: what is handed over is only read, as far as it is long; what is answered is new memory.
func TestArgumentsStay(t *testing.T) {
	r := rand.New(rand.NewSource(5))
	for i := range 2000 {
		plain := someRoutes(r, 8)
		l := []api.Route{}
		for _, x := range plain {
			l = append(l, withBehind(x, 1+i%2))
		}
		// Behind its length stands one that would be best.
		l = behind(l, api.Route{Attr: api.Attr{Pref: 999, Path: []int{1}}})
		before, told := whole(l), tellAll(plain)
		if got := tellAll(l); got != told || whole(l) != before {
			t.Fatalf("%s was %s, with %s, then %s", whole(l), before, told, got)
		}
		sorted := best.Sort(l)
		fill(sorted, api.Route{From: -9})
		if first, _ := best.Best(l); whole(l) != before || tellAll(l) != told {
			t.Fatalf("what is written into an answer shows: %s, then %s (%v)", before, whole(l), first)
		}
	}
}

// P4: nobody else sees what is written into a list of an answer: not who handed it over, nor another answer, nor another route of the same one.
func TestAnswersHaveTheirOwnLists(t *testing.T) {
	shared := behind([]int{1, 2, 3}, 7)
	r := api.Route{Attr: api.Attr{Path: shared, Tags: shared}}
	l := []api.Route{r, r, r}
	first, _ := best.Best(l)
	again, _ := best.Best(l)
	answers := append(best.Sort(l), append(best.Sort(l), first, again)...)
	var lists []*[]int
	for at := range answers {
		lists = append(lists, &answers[at].Attr.Path, &answers[at].Attr.Tags)
	}
	for at, x := range lists {
		fill(*x, -at)
	}
	for at, x := range lists {
		if want := slices.Repeat([]int{-at}, 3); !slices.Equal(*x, want) {
			t.Errorf("list %d is %v, want %v", at, *x, want)
		}
	}
	if !slices.Equal(shared, []int{1, 2, 3}) || !slices.Equal(shared[:cap(shared)][3:], slices.Repeat([]int{7}, 15)) {
		t.Error("what is written into an answer shows:", shared[:cap(shared)])
	}
}

// P4: a later change of what was handed over does not show in an answer.
func TestAnswersStay(t *testing.T) {
	l := rung()
	for at := range l {
		l[at] = twin(l[at])
	}
	sorted := best.Sort(l)
	first, _ := best.Best(l)
	kept := spell(sorted) + spell(first)
	for _, r := range l {
		scribble(r)
	}
	fill(l, api.Route{})
	if got := spell(sorted) + spell(first); got != kept {
		t.Errorf("a later change shows: %s, then %s", kept, got)
	}
}

// P2: neither what was asked ahead, nor who asks at the same time, shows in an answer; go test -race would tell of memory that is shared.
func TestAnswersHangOnArgumentsAlone(t *testing.T) {
	r := rand.New(rand.NewSource(6))
	var asked [][]api.Route
	for range 300 {
		asked = append(asked, someRoutes(r, 12))
	}
	first := make([]string, len(asked))
	for i, l := range asked {
		first[i] = tellAll(l)
	}
	var wg sync.WaitGroup
	for worker := range 8 {
		wg.Go(func() {
			for i := range asked {
				k := len(asked) - 1 - (i+worker*31)%len(asked)
				if got := tellAll(asked[k]); got != first[k] {
					t.Errorf("%d: %q, then %q", k, first[k], got)
				}
			}
		})
	}
	wg.Wait()
}

func TestNilAndEmptyAreOneThing(t *testing.T) {
	var l []api.Route
	lists := [][]int{nil, {}, behind(nil, 7), behind([]int{}, -7)}
	for _, path := range lists {
		for _, tags := range lists {
			l = append(l, api.Route{Attr: api.Attr{Path: path, Tags: tags}})
		}
	}
	more := api.Route{Attr: api.Attr{Tags: []int{-9}}}
	for _, a := range l {
		for _, b := range l {
			wantAlike(t, "empty lists", a, b)
		}
		wantBetter(t, "no tags", a, more)
		wantBoth(t, []api.Route{more, a}, []api.Route{a, more})
	}
}
