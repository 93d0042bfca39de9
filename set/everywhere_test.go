package set_test

import (
	"fmt"
	"math"
	"math/rand"
	"slices"
	"sync"
	"testing"

	"herepath/api"
	"herepath/ip"
	"herepath/set"
)

var strangeNumbers = []int{math.MinInt, math.MinInt + 1, math.MinInt32, -64, -33, -1, 0, 1, 31, 32, 33, 63, 64, 65, math.MaxInt32, last, last + 1, 1 << 62, math.MaxInt}

var calls = map[string]func(a, b []api.Prefix) ([]api.Prefix, error){
	"Or":  set.Or,
	"And": set.And,
	"Not": set.Not,
}

// checkFault: an *api.Fault at a place, which wraps just that error.
func checkFault(t *testing.T, name string, err error, at int, want error) {
	t.Helper()
	f, ok := err.(*api.Fault)
	if !ok || f.At != at || f.Err != want {
		t.Errorf("%s: %#v, want %v at %d", name, err, want, at)
	}
}

func TestWrongPrefixes(t *testing.T) {
	good := api.Prefix{Addr: 10 << 24, Len: 8}
	bound, shape := api.Prefix{Len: 33}, api.Prefix{Addr: 1, Len: 31}
	for _, c := range []struct {
		l    []api.Prefix
		at   int
		want error
	}{
		{[]api.Prefix{bound}, 0, api.ErrBound},
		{[]api.Prefix{shape}, 0, api.ErrShape},
		{[]api.Prefix{good, bound}, 1, api.ErrBound},
		{[]api.Prefix{good, shape}, 1, api.ErrShape},
		{[]api.Prefix{good, good, good, shape, bound}, 3, api.ErrShape},
		{[]api.Prefix{good, bound, shape}, 1, api.ErrBound},
		{[]api.Prefix{{}, {Addr: -1, Len: 32}}, 1, api.ErrBound},
		{[]api.Prefix{{}, {Addr: last + 1, Len: 32}}, 1, api.ErrBound},
		{[]api.Prefix{{}, {Addr: 1, Len: -1}, {}}, 1, api.ErrBound},
		{[]api.Prefix{{}, {Addr: last, Len: 0}, {}}, 1, api.ErrShape},
	} {
		name := fmt.Sprint(c.l)
		got, err := set.Norm(c.l)
		checkFault(t, "Norm "+name, err, c.at, c.want)
		n, errN := set.Count(c.l)
		checkFault(t, "Count "+name, errN, c.at, c.want)
		if len(got) != 0 || n != 0 {
			t.Errorf("%s: %v and %d with an error", name, got, n)
		}
		for call, f := range calls {
			for _, other := range [][]api.Prefix{nil, {good, good}} {
				got, err := f(c.l, other)
				checkFault(t, call+" "+name, err, c.at, c.want)
				also, errB := f(other, c.l)
				checkFault(t, call+" of the second "+name, errB, c.at, c.want)
				if len(got) != 0 || len(also) != 0 {
					t.Errorf("%s %s: %v, %v with an error", call, name, got, also)
				}
			}
		}
	}
}

func TestErrorsOfTheFirstComeFirst(t *testing.T) {
	good, bound, shape := api.Prefix{}, api.Prefix{Addr: -1}, api.Prefix{Addr: 1}
	for name, f := range calls {
		_, err := f([]api.Prefix{good, good, shape}, []api.Prefix{bound})
		checkFault(t, name, err, 2, api.ErrShape)
		_, err = f([]api.Prefix{good, bound}, []api.Prefix{shape})
		checkFault(t, name, err, 1, api.ErrBound)
	}
}

// P1: a panic fails the test, and so does a call that does not end.
func TestNoCallPanics(t *testing.T) {
	for _, a := range strangeNumbers {
		for _, n := range strangeNumbers {
			p := api.Prefix{Addr: a, Len: n}
			for _, l := range [][]api.Prefix{nil, {}, {p}, {{}, p}, {p, p}} {
				_, err := set.Norm(l)
				if _, errN := set.Count(l); (err == nil) != (errN == nil) || len(l) > 0 && (err == nil) != (ip.Check(p) == nil) {
					t.Errorf("%v: %v, %v", l, err, errN)
				}
				for _, f := range calls {
					f(l, nil)
					f(nil, l)
					f(l, l)
				}
				for _, x := range strangeNumbers {
					set.Has(l, x)
				}
			}
		}
	}
}

func TestLongLists(t *testing.T) {
	var odd, even []api.Prefix
	for i := range 1 << 17 {
		odd = append(odd, api.Prefix{Addr: last - i*2, Len: 32})
		even = append(even, api.Prefix{Addr: last - i*2 - 1, Len: 32})
	}
	or, errOr := set.Or(odd, even)
	if told(or) != "255.252.0.0/14" || errOr != nil {
		t.Errorf("%d prefixes, %v", len(or), errOr)
	}
	and, errAnd := set.And(odd, even)
	not, errNot := set.Not(odd, even)
	if len(and) != 0 || len(not) != len(odd) || errAnd != nil || errNot != nil {
		t.Errorf("%d and %d prefixes, %v, %v", len(and), len(not), errAnd, errNot)
	}
}

// behind: the list in memory that goes on, with wrong prefixes behind its length.
func behind(l []api.Prefix) []api.Prefix {
	long := append(slices.Clone(l), api.Prefix{Addr: -7, Len: 77}, api.Prefix{Addr: -7, Len: 77}, api.Prefix{Addr: -7, Len: 77})
	return long[:len(l)]
}

// P3, P4: what is handed over is only read, as far as it is long, and not kept; what is answered is new memory.
func TestArgumentsStay(t *testing.T) {
	r := rand.New(rand.NewSource(4))
	for range 300 {
		a, b := behind(someList(r)), behind(someList(r))
		keptA, keptB := slices.Clone(a[:cap(a)]), slices.Clone(b[:cap(b)])
		norm, errNorm := set.Norm(a)
		or, errOr := set.Or(a, b)
		and, errAnd := set.And(a, b)
		not, errNot := set.Not(a, b)
		_, errCount := set.Count(a)
		set.Has(a, 0)
		if errNorm != nil || errOr != nil || errAnd != nil || errNot != nil || errCount != nil {
			t.Fatal(errNorm, errOr, errAnd, errNot, errCount)
		}
		before := tellAll(a, b)
		for _, l := range [][]api.Prefix{norm, or, and, not} {
			clear(l[:cap(l)])
		}
		if !slices.Equal(a[:cap(a)], keptA) || !slices.Equal(b[:cap(b)], keptB) {
			t.Fatalf("%v and %v were %v and %v", a, b, keptA, keptB)
		}
		if again := tellAll(a, b); again != before {
			t.Fatalf("%s, then %s", before, again)
		}
	}
	l := []api.Prefix{{Addr: 10 << 24, Len: 8}}
	got, _ := set.Norm(l)
	l[0] = api.Prefix{}
	if told(got) != "10.0.0.0/8" {
		t.Error("a later change shows:", told(got))
	}
}

// tellAll asks every call of the package, and writes down what it answers.
func tellAll(a, b []api.Prefix) string {
	norm, errNorm := set.Norm(a)
	or, errOr := set.Or(a, b)
	and, errAnd := set.And(a, b)
	not, errNot := set.Not(a, b)
	n, errN := set.Count(b)
	has := false
	if len(b) > 0 {
		has = set.Has(a, b[0].Addr)
	}
	return fmt.Sprint(norm, errNorm, or, errOr, and, errAnd, not, errNot, n, errN, has)
}

// P2, P4: neither what was asked ahead, nor who asks at the same time, shows in an answer; go test -race would tell of memory that is shared.
func TestAnswersHangOnArgumentsAlone(t *testing.T) {
	r := rand.New(rand.NewSource(6))
	var lists [][]api.Prefix
	for i := range 200 {
		l := someList(r)
		if i%10 == 0 {
			l = append(l, api.Prefix{Addr: -1, Len: i})
		}
		lists = append(lists, l)
	}
	first := make([]string, len(lists))
	for i := range lists {
		first[i] = tellAll(lists[i], lists[(i*7+3)%len(lists)])
	}
	var wg sync.WaitGroup
	for worker := range 8 {
		wg.Go(func() {
			for i := range lists {
				k := len(lists) - 1 - (i+worker*31)%len(lists)
				if got := tellAll(lists[k], lists[(k*7+3)%len(lists)]); got != first[k] {
					t.Errorf("%v: %q, then %q", lists[k], first[k], got)
				}
			}
		})
	}
	wg.Wait()
}

func TestNilAndEmptyAreOneThing(t *testing.T) {
	for _, l := range [][]api.Prefix{nil, {}, behind(nil)} {
		norm, err := set.Norm(l)
		n, errN := set.Count(l)
		if len(norm) != 0 || n != 0 || set.Has(l, 0) || err != nil || errN != nil {
			t.Errorf("%v: %v, %v, %d, %v", l, norm, err, n, errN)
		}
	}
}
