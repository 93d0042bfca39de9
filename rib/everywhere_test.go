package rib_test

import (
	"fmt"
	"math"
	"math/rand"
	"slices"
	"sync"
	"testing"

	"herepath/api"
	"herepath/rib"
)

var strangeNumbers = []int{math.MinInt, math.MinInt + 1, -1 << 32, -64, -33, -1, 0, 1, 5, 24, 32, 33, 64, 1000, 1001, last, last + 1, 1 << 62, math.MaxInt}

func strangeAttrs() []api.Attr {
	l := []api.Attr{{}, way(self), {Path: make([]int, 1<<16), Tags: make([]int, 1<<16)}, {Path: []int{}, Tags: []int{}}}
	for _, n := range strangeNumbers {
		l = append(l, way(n), api.Attr{Path: []int{self, n}}, api.Attr{Pref: n}, api.Attr{Med: n}, api.Attr{Origin: n}, api.Attr{Tags: []int{n, n}})
	}
	return l
}

// P1: a panic fails the test, and so does a call that does not end.
func TestNoCallPanics(t *testing.T) {
	none, err := rib.New(0)
	want(t, "New", err, api.ErrBound)
	for _, r := range []*rib.Rib{fresh(t), none} {
		for _, a := range strangeAttrs() {
			for _, n := range strangeNumbers {
				for _, bits := range strangeNumbers {
					to := api.Prefix{Addr: n, Len: bits}
					r.Learn(n, to, a)
					r.Learn(bits, to, a)
					r.Lose(bits, to)
				}
			}
		}
		for _, n := range strangeNumbers {
			for _, bits := range strangeNumbers {
				to := api.Prefix{Addr: n, Len: bits}
				r.Own(to)
				r.Best(to)
				r.Disown(to)
				r.Own(to)
			}
			r.Told(n)
			r.All()
			r.Down(n)
		}
	}
}

// What New answers with an error has nothing, and takes nothing.
func TestRibOfNoSystem(t *testing.T) {
	r, _ := rib.New(1001)
	want(t, "Learn", r.Learn(7, nth(1), way(7)), api.ErrBound)
	want(t, "Own", r.Own(nth(1)), api.ErrBound)
	want(t, "Lose", r.Lose(7, nth(1)), api.ErrNone)
	want(t, "Disown", r.Disown(nth(1)), api.ErrNone)
	if n := r.Down(7); n != 0 {
		t.Error("Down:", n)
	}
	is(t, r, "0.0.1.0/24", "")
	holds(t, r, "")
	told(t, r, 7, "")
}

// behind: the list in memory that goes on, with something else behind its length.
func behind(l []int, more int) []int {
	return append(slices.Clone(l), slices.Repeat([]int{more}, 15)...)[:len(l)]
}

// fill all the memory of a list.
func fill[T any](l []T, with T) {
	for i := range l[:cap(l)] {
		l[:cap(l)][i] = with
	}
}

func scribble(l []api.Route) {
	for at := range l {
		fill(l[at].Attr.Path, -9)
		fill(l[at].Attr.Tags, -9)
	}
	fill(l, api.Route{To: api.Prefix{Addr: -9, Len: -9}, From: -9})
}

// P3, P4: what is handed over is only read, as far as it is long, and not kept.
func TestArgumentsStay(t *testing.T) {
	random := rand.New(rand.NewSource(4))
	for _, more := range []int{3, self, -7} {
		r, plain := fresh(t), fresh(t)
		for range 2000 {
			a, peer, to := someAttr(random), random.Intn(10), nth(random.Intn(5))
			b := a
			b.Path, b.Tags = behind(a.Path, more), behind(a.Tags, more)
			before := fmt.Sprint(b, b.Path[:cap(b.Path)], b.Tags[:cap(b.Tags)])
			want(t, "Learn, with something behind the lists", r.Learn(peer, to, b), plain.Learn(peer, to, a))
			if after := fmt.Sprint(b, b.Path[:cap(b.Path)], b.Tags[:cap(b.Tags)]); after != before {
				t.Fatalf("%s was %s", after, before)
			}
			fill(b.Path, -9)
			fill(b.Tags, -9)
		}
		if got, want := fmt.Sprint(r.All(), r.Told(6)), fmt.Sprint(plain.All(), plain.Told(6)); got != want {
			t.Errorf("what is behind a list, or a later change of it, shows: %s, want %s", got, want)
		}
	}
}

// shared: a rib to which much was told by lists that are one.
func shared(t *testing.T) *rib.Rib {
	t.Helper()
	r := fresh(t)
	l := []int{1, 2, 3}
	for peer := 7; peer < 9; peer++ {
		for n := range 3 {
			want(t, "Learn", r.Learn(peer, nth(n), api.Attr{Path: l, Tags: l}), nil)
		}
	}
	want(t, "Own", r.Own(nth(9)), nil)
	return r
}

// P4: nobody else sees what is written into an answer: not the rib, nor another answer, nor another route of the same one.
func TestAnswersHaveTheirOwnLists(t *testing.T) {
	r := shared(t)
	before := whole(r)
	first, _ := r.Best(nth(1))
	again, _ := r.Best(nth(1))
	mine, _ := r.Best(nth(9))
	answers := slices.Concat(r.All(), r.All(), r.Told(7), r.Told(7), r.Told(8), []api.Route{first, again, mine})
	var lists []*[]int
	for at := range answers {
		lists = append(lists, &answers[at].Attr.Path, &answers[at].Attr.Tags)
	}
	lengths := make([]int, len(lists))
	for at, x := range lists {
		lengths[at] = len(*x)
		fill(*x, -at)
		*x = append(*x, -at)[:lengths[at]]
	}
	for at, x := range lists {
		if want := slices.Repeat([]int{-at}, lengths[at]); !slices.Equal(*x, want) {
			t.Errorf("list %d is %v, want %v", at, *x, want)
		}
	}
	scribble(r.All())
	scribble(r.Told(7))
	if after := whole(r); after != before {
		t.Errorf("what is written into an answer shows: %s, then %s", before, after)
	}
}

// P4: an answer stays as it is, whatever is told later.
func TestAnswersStay(t *testing.T) {
	r := shared(t)
	all, seven := r.All(), r.Told(7)
	first, _ := r.Best(nth(1))
	kept := fmt.Sprint(all, seven, first)
	want(t, "Learn", r.Learn(7, nth(1), way(4)), nil)
	want(t, "Own", r.Own(nth(0)), nil)
	want(t, "Disown", r.Disown(nth(9)), nil)
	r.Down(8)
	if got := fmt.Sprint(all, seven, first); got != kept {
		t.Errorf("a later change shows: %s, then %s", kept, got)
	}
}

// worked: what a rib answers to a row of calls.
func worked(seed int64) string {
	random := rand.New(rand.NewSource(seed))
	r, err := rib.New(self)
	out := fmt.Sprint(err)
	for range 60 {
		peer, to := random.Intn(10), nth(random.Intn(5))
		switch random.Intn(6) {
		case 0:
			out += fmt.Sprint(r.Own(to))
		case 1:
			out += fmt.Sprint(r.Lose(peer, to))
		case 2:
			out += fmt.Sprint(r.Disown(to))
		default:
			out += fmt.Sprint(r.Learn(peer, to, someAttr(random)))
		}
		out += fmt.Sprint(r.All(), r.Told(peer))
	}
	return out + fmt.Sprint(r.Down(1), r.Down(2))
}

// P2, P4: neither other ribs, nor who works at the same time, nor the order in which a map is gone through, show in an answer; go test -race would tell of memory that is shared.
func TestRibsAreApart(t *testing.T) {
	first := make([]string, 40)
	for i := range first {
		first[i] = worked(int64(i))
	}
	var wg sync.WaitGroup
	for worker := range 8 {
		wg.Go(func() {
			for i := range first {
				k := (i + worker*7) % len(first)
				if worked(int64(k)) != first[k] {
					t.Errorf("rib %d answers otherwise side by side", k)
				}
			}
		})
	}
	wg.Wait()
}

// Asking changes nothing: many may ask one rib at the same time.
func TestManyAskOneRib(t *testing.T) {
	r := shared(t)
	before := whole(r)
	var wg sync.WaitGroup
	for range 8 {
		wg.Go(func() {
			for range 50 {
				if got := whole(r); got != before {
					t.Errorf("%s, want %s", got, before)
				}
			}
		})
	}
	wg.Wait()
}

func TestNilAndEmptyAreOneThing(t *testing.T) {
	var answers []string
	for _, l := range [][]int{nil, {}, behind(nil, 7), behind([]int{}, self)} {
		r := fresh(t)
		learn(t, r, 7, "10.0.0.0/8", api.Attr{Path: l, Tags: l, Pref: 9})
		got, is := r.Best(prefix("10.0.0.0/8"))
		answers = append(answers, fmt.Sprint(got, is, r.All(), r.Told(7)))
	}
	if len(slices.Compact(answers)) != 1 {
		t.Error(answers)
	}
}
