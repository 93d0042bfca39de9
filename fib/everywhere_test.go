package fib_test

import (
	"fmt"
	"math"
	"math/rand"
	"slices"
	"sync"
	"testing"

	"herepath/api"
	"herepath/fib"
	"herepath/ip"
)

var strangeNumbers = []int{math.MinInt, math.MinInt + 1, math.MinInt32, -64, -33, -32, -1, 0, 1, 31, 32, 33, 63, 64, 65, math.MaxInt32, last, last + 1, 1 << 62, math.MaxInt}

func TestWrongPrefixes(t *testing.T) {
	x := filled(t, 2, "10.0.0.0/8 0.0.0.0/0")
	for p, want := range map[api.Prefix]error{
		{Addr: -1, Len: 32}:        api.ErrBound,
		{Addr: last + 1, Len: 32}:  api.ErrBound,
		{Addr: 0, Len: -1}:         api.ErrBound,
		{Addr: 0, Len: 33}:         api.ErrBound,
		{Addr: 1, Len: -1}:         api.ErrBound,
		{Addr: -1, Len: 33}:        api.ErrBound,
		{Addr: 1, Len: 31}:         api.ErrShape,
		{Addr: 10<<24 + 1, Len: 8}: api.ErrShape,
		{Addr: last, Len: 0}:       api.ErrShape,
	} {
		// The table is full: what is wrong with the prefix is told first.
		put(t, x, p, 1, want)
		drop(t, x, p, want)
		checkFault(t, "Set", x.Set([]fib.Entry{{To: p}}), 0, want)
		put(t, fib.New(0), p, 1, want)
		drop(t, fib.New(0), p, want)
	}
	holds(t, x, "0.0.0.0/0>2 10.0.0.0/8>1")
}

// P1: a panic fails the test, and so does a call that does not end.
func TestNoCallPanics(t *testing.T) {
	for _, most := range strangeNumbers {
		x, room := fib.New(most), max(0, min(most, api.MaxRoutes))
		for _, a := range strangeNumbers {
			for _, n := range strangeNumbers {
				p := api.Prefix{Addr: a, Len: n}
				want := ip.Check(p)
				if want == nil && x.Count() == room {
					want = api.ErrFull
				}
				put(t, x, p, a, want)
				x.Find(a)
				fib.New(most).Set([]fib.Entry{{To: p, Hop: a}, {To: p}})
				fib.New(most).Drop(p)
			}
		}
		if len(x.All()) != x.Count() || x.Count() > room {
			t.Errorf("a table for %d: %d entries, Count %d", most, len(x.All()), x.Count())
		}
	}
}

func TestLongLists(t *testing.T) {
	l := make([]fib.Entry, 1<<20)
	for i := range l {
		l[i].To = api.Prefix{Addr: i, Len: 32}
	}
	x := fib.New(60)
	checkFault(t, "a long list", x.Set(l), 60, api.ErrFull)
	holds(t, x, "")
}

// behind: the list in memory that goes on, with wrong entries behind its length.
func behind(l []fib.Entry) []fib.Entry {
	wrong := fib.Entry{To: api.Prefix{Addr: -7, Len: 77}, Hop: -7}
	return append(slices.Clone(l), wrong, wrong, wrong)[:len(l)]
}

func someEntries(r *rand.Rand) []fib.Entry {
	l := make([]fib.Entry, r.Intn(7))
	for i := range l {
		l[i] = fib.Entry{To: somePrefix(r), Hop: i + 1}
	}
	return l
}

// P3, P4: what is handed over is only read, as far as it is long, and not kept; what is answered is new memory.
func TestArgumentsStay(t *testing.T) {
	r := rand.New(rand.NewSource(5))
	for range 2000 {
		l := behind(someEntries(r))
		kept := slices.Clone(l[:cap(l)])
		x := fib.New(5)
		err := x.Set(l)
		if !slices.Equal(l[:cap(l)], kept) {
			t.Fatalf("%v was %v", l[:cap(l)], kept)
		}
		before := tellAll(x)
		clear(l[:cap(l)])
		if again := tellAll(x); again != before {
			t.Fatalf("a later change of what was set shows (%v): %s, then %s", err, before, again)
		}
		got, beside := x.All(), x.All()
		clear(got[:cap(got)])
		if told(beside) != told(x.All()) || tellAll(x) != before {
			t.Fatalf("a change of an answer shows: %s, then %s", before, tellAll(x))
		}
		got = append(got[:0], fib.Entry{Hop: 3}, fib.Entry{Hop: 4})
		if again := tellAll(x); again != before {
			t.Fatalf("a change of %v shows: %s, then %s", got, before, again)
		}
	}
}

// An answer stays as it is, whatever is done to its table later.
func TestAnswersStay(t *testing.T) {
	x := filled(t, 9, "10.0.0.0/8 11.0.0.0/8")
	got := x.All()
	put(t, x, prefix(t, "10.0.0.0/8"), 7, nil)
	drop(t, x, prefix(t, "11.0.0.0/8"), nil)
	put(t, x, prefix(t, "9.0.0.0/8"), 7, nil)
	if told(got) != "10.0.0.0/8>1 11.0.0.0/8>2" {
		t.Error("a later change of the table shows:", told(got))
	}
}

// tellAll asks a table for what it has, and for the edges of that, and writes it down.
func tellAll(x *fib.Table) string {
	s := fmt.Sprint(x.All(), x.Count())
	for _, e := range x.All() {
		for _, a := range []int{e.To.Addr - 1, e.To.Addr, e.To.Addr + ip.Size(e.To) - 1, e.To.Addr + ip.Size(e.To)} {
			p, hop, is := x.Find(a)
			s += fmt.Sprint(" ", a, p, hop, is)
		}
	}
	return s
}

// worked: what a table answers to a row of calls.
func worked(seed int64) string {
	r := rand.New(rand.NewSource(seed))
	x := fib.New(int(seed) % 7)
	s := ""
	for range 40 {
		p := somePrefix(r)
		switch r.Intn(3) {
		case 0:
			s += fmt.Sprint(x.Put(p, r.Intn(9)))
		case 1:
			s += fmt.Sprint(x.Drop(p))
		default:
			s += fmt.Sprint(x.Set(someEntries(r)))
		}
		s += tellAll(x)
	}
	return s
}

// P2, P4: neither other tables, nor who works at the same time, show in an answer; go test -race would tell of memory that is shared.
func TestTablesAreApart(t *testing.T) {
	first := make([]string, 40)
	for i := range first {
		first[i] = worked(int64(i))
	}
	var wg sync.WaitGroup
	for worker := range 8 {
		wg.Go(func() {
			for i := range first {
				k := (i + worker*7) % len(first)
				if worked(int64(k)) != first[k] {
					t.Errorf("table %d answers otherwise side by side", k)
				}
			}
		})
	}
	wg.Wait()
}

// Asking changes nothing: many may ask one table at the same time.
func TestManyAskOneTable(t *testing.T) {
	x := filled(t, 9, "0.0.0.0/0 10.0.0.0/8 10.1.0.0/16 10.1.2.3/32")
	want := tellAll(x)
	var wg sync.WaitGroup
	for range 8 {
		wg.Go(func() {
			for range 50 {
				if got := tellAll(x); got != want {
					t.Errorf("%s, want %s", got, want)
				}
			}
		})
	}
	wg.Wait()
}

func TestNilAndEmptyAreOneThing(t *testing.T) {
	for _, l := range [][]fib.Entry{nil, {}, behind(nil)} {
		x := filled(t, 3, "10.0.0.0/8")
		if err := x.Set(l); err != nil {
			t.Errorf("Set(%v): %v", l, err)
		}
		holds(t, x, "")
	}
}
