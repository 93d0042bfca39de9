package wire_test

import (
	"fmt"
	"math"
	"math/rand"
	"slices"
	"strings"
	"sync"
	"testing"

	"herepath/api"
	"herepath/plain"
	"herepath/wire"
)

var strangeNumbers = []int{math.MinInt, math.MinInt + 1, math.MinInt32, -1001, -33, -1, 0, 1, 2, 31, 32, 33, 60, 61, 1000, 1001, math.MaxInt32, 1<<32 - 1, 1 << 32, 1 << 62, math.MaxInt - 1, math.MaxInt}

// tellAll asks every call of the package, and writes down what it answers.
func tellAll(m api.Msg, s string) string {
	code, at := plain.Code(wire.Check(m))
	text, errText := wire.Text(m)
	codeText, atText := plain.Code(errText)
	read, errRead := wire.Read(s)
	codeRead, atRead := plain.Code(errRead)
	return fmt.Sprint(code, at, text, codeText, atText, read, codeRead, atRead)
}

// P1: a panic fails the test, and so does a call that does not end.
func TestNoCallPanics(t *testing.T) {
	kinds := []string{"", "open", "keep", "news", "note", "what", strings.Repeat("news", 1<<20)}
	drops := [][]api.Prefix{nil, {}, make([]api.Prefix, 1<<20)}
	adds := [][]api.Route{nil, {}, make([]api.Route, 1<<20)}
	for _, n := range strangeNumbers {
		for _, m := range strangeNumbers {
			p := api.Prefix{Addr: n, Len: m}
			drops = append(drops, []api.Prefix{p}, []api.Prefix{{}, p}, []api.Prefix{p, p}, slices.Repeat([]api.Prefix{p}, 60))
			r := api.Route{To: p, Attr: api.Attr{Path: []int{n}, Pref: m, Tags: []int{m, n}}, From: n}
			adds = append(adds, []api.Route{r}, []api.Route{{}, r}, []api.Route{{To: p}, {To: p}}, make([]api.Route, 60))
		}
	}
	for i, d := range drops {
		for _, a := range [][]api.Route{nil, adds[i], adds[(i*7+1)%len(adds)], adds[len(adds)-1-i]} {
			for j, kind := range kinds {
				m := api.Msg{Kind: kind, N: strangeNumbers[(i+j)%len(strangeNumbers)], Drops: d, Adds: a}
				wire.Check(m)
				wire.Text(m)
				m.N = 0
				wire.Check(m)
				wire.Text(m)
			}
		}
	}
}

func TestStrangeTexts(t *testing.T) {
	r := rand.New(rand.NewSource(3))
	for range 20000 {
		b := make([]byte, r.Intn(60))
		for i := range b {
			b[i] = byte(r.Intn(256))
		}
		wantText(t, string(b), 0)
		readsWell(t, "news\n"+string(b))
		readsWell(t, "news\n+ 10.0.0.0/8 "+string(b)+"\n")
	}
	for n := range 300 {
		for _, s := range []string{"- 1.0.0.0/8\n", "+ 1.0.0.0/8 \n", "+ 1.0.0.0/8 - 0 0 0 -\n", "\n", "news\n"} {
			readsWell(t, "news\n"+strings.Repeat(s, n))
			readsWell(t, strings.Repeat(s, n))
		}
	}
}

// behind: the list in memory that goes on, with something else behind its length.
func behind[T any](l []T, more T) []T {
	return append(slices.Clone(l), slices.Repeat([]T{more}, 15)...)[:len(l)]
}

func behindAll(m api.Msg) api.Msg {
	m.Drops = behind(m.Drops, api.Prefix{Addr: -7, Len: -7})
	m.Adds = behind(m.Adds, api.Route{From: -7})
	for i := range m.Adds {
		a := &m.Adds[i].Attr
		a.Path, a.Tags = behind(a.Path, -7), behind(a.Tags, -7)
	}
	return m
}

// whole: all the memory of a message.
func whole(m api.Msg) string {
	s := fmt.Sprint(m.Kind, m.N, m.Drops[:cap(m.Drops)], m.Adds[:cap(m.Adds)])
	for _, r := range m.Adds {
		s += fmt.Sprint(r.Attr.Path[:cap(r.Attr.Path)], r.Attr.Tags[:cap(r.Attr.Tags)])
	}
	return s
}

// listsOf a message: for each list a call that writes over all of its memory.
func listsOf(m api.Msg) []func() {
	numbers := func(l []int) func() {
		return func() {
			for i := range l[:cap(l)] {
				l[:cap(l)][i] = -9
			}
		}
	}
	out := []func(){func() {
		for i := range m.Drops[:cap(m.Drops)] {
			m.Drops[:cap(m.Drops)][i] = api.Prefix{Addr: -9, Len: -9}
		}
	}}
	for _, r := range m.Adds {
		out = append(out, numbers(r.Attr.Path), numbers(r.Attr.Tags))
	}
	return append(out, func() {
		for i := range m.Adds[:cap(m.Adds)] {
			m.Adds[:cap(m.Adds)][i] = api.Route{From: -9}
		}
	})
}

// P3, P4: what is handed over is only read, as far as it is long.
func TestArgumentsStay(t *testing.T) {
	r := rand.New(rand.NewSource(4))
	for i := range 2000 {
		m := behindAll(someMsg(r))
		if len(m.Drops) > 1 && i%3 == 0 {
			m.Drops[1] = m.Drops[0]
		}
		if len(m.Adds) > 0 && i%3 == 1 {
			m.Adds[len(m.Adds)-1].From = 1
		}
		want, before := model(m), whole(m)
		err := wire.Check(m)
		want.check(t, "with more behind the lists", err)
		s, errText := wire.Text(m)
		want.check(t, "with more behind the lists", errText)
		if want.err == nil && s != spell(m) {
			t.Errorf("%v is written as %q", m, s)
		}
		if whole(m) != before {
			t.Fatalf("%s was %s", whole(m), before)
		}
		// What was answered does not change with what was handed over.
		for _, scribble := range listsOf(m) {
			scribble()
		}
		want.check(t, "after a later change", err)
		want.check(t, "after a later change", errText)
	}
}

// P4: what is answered is new memory, and no two lists of it share any.
func TestAnswersAreNew(t *testing.T) {
	r := rand.New(rand.NewSource(5))
	for range 300 {
		m := someMsg(r)
		s := spell(m)
		if len(m.Adds) > 2 {
			// One that is none, so that Drops have one more.
			s = strings.Replace(s, spellAttr(m.Adds[1].Attr)+"\n", "x\n", 1)
		}
		want, fails := readModel(s)
		got, err := wire.Read(s)
		fails.check(t, s, err)
		for at := range listsOf(got) {
			one, _ := wire.Read(s)
			listsOf(one)[at]()
			apart, _ := wire.Read(s)
			if !same(got, want) || !same(apart, want) {
				t.Fatalf("what is written into an answer shows in another: %v, %v, want %v", got, apart, want)
			}
			for i, changed := range differing(one, want) {
				if changed && i != at {
					t.Fatalf("what is written into list %d of %v shows in list %d", at, want, i)
				}
			}
		}
	}
}

// differing: of each list, in the order of listsOf, whether it is not as in another message.
func differing(a, b api.Msg) []bool {
	unlike := func(x, y any) bool { return fmt.Sprint(x) != fmt.Sprint(y) }
	out := []bool{unlike(a.Drops, b.Drops)}
	whole := false
	for i := range b.Adds {
		x, y := a.Adds[i], b.Adds[i]
		whole = whole || x.To != y.To || x.From != y.From
		out = append(out, !whole && unlike(x.Attr.Path, y.Attr.Path), !whole && unlike(x.Attr.Tags, y.Attr.Tags))
	}
	return append(out, whole)
}

// P2: neither what was asked ahead, nor who asks at the same time, shows in an answer; go test -race would tell of memory that is shared.
func TestAnswersHangOnArgumentsAlone(t *testing.T) {
	r := rand.New(rand.NewSource(6))
	var l []api.Msg
	var texts []string
	for i := range 300 {
		m := someMsg(r)
		s := spell(m)
		if i%3 == 0 {
			m.N = -1
			s = strings.Replace(s, "+", "-", 1)
		}
		if i%5 == 0 && len(m.Drops) > 1 {
			slices.Reverse(m.Drops)
		}
		if i%7 == 0 {
			s = strings.ReplaceAll(s, ",", ", ")
		}
		l, texts = append(l, m), append(texts, s)
	}
	first := make([]string, len(l))
	for i := range l {
		first[i] = tellAll(l[i], texts[i])
	}
	var wg sync.WaitGroup
	for worker := range 8 {
		wg.Go(func() {
			for i := range l {
				k := len(l) - 1 - (i+worker*31)%len(l)
				if got := tellAll(l[k], texts[k]); got != first[k] {
					t.Errorf("%v: %q, then %q", l[k], first[k], got)
				}
			}
		})
	}
	wg.Wait()
}

// A fault is new memory, too.
func TestFaultsAreNew(t *testing.T) {
	m := api.Msg{Kind: "news", Drops: []api.Prefix{{}, {}}}
	asked := []func() error{
		func() error { return wire.Check(m) },
		func() error { _, err := wire.Text(m); return err },
		func() error { _, err := wire.Read("news\nx\n"); return err },
	}
	for i, want := range []fault{{1, api.ErrOrder}, {1, api.ErrOrder}, {1, api.ErrText}} {
		f, ok := asked[i]().(*api.Fault)
		if !ok {
			t.Fatal("no fault")
		}
		*f = api.Fault{At: 9, Err: api.ErrLoop}
		want.check(t, "a fault asked again", asked[i]())
	}
}

func TestNilAndEmptyAreOneThing(t *testing.T) {
	for _, drops := range [][]api.Prefix{nil, {}, behind(nil, api.Prefix{Len: -1})} {
		for _, adds := range [][]api.Route{nil, {}, behind(nil, api.Route{From: -1})} {
			for s, m := range map[string]api.Msg{"open 7\n": {Kind: "open", N: 7}, "keep\n": {Kind: "keep"}, "note 7\n": {Kind: "note", N: 7}, "news\n": {Kind: "news"}} {
				m.Drops, m.Adds = drops, adds
				wantBoth(t, m, s)
			}
		}
	}
	for _, l := range [][]int{nil, {}, behind(nil, -1)} {
		wantBoth(t, api.Msg{Kind: "news", Adds: []api.Route{{Attr: api.Attr{Path: l, Tags: l}}}}, "news\n+ 0.0.0.0/0 - 0 0 0 -\n")
	}
}
