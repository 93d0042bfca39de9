package rib_test

import (
	"fmt"
	"math"
	"math/rand"
	"slices"
	"testing"

	"herepath/api"
	"herepath/attr"
	"herepath/best"
	"herepath/ip"
	"herepath/rib"
)

func TestOwn(t *testing.T) {
	r := fresh(t)
	want(t, "Disown of nothing", r.Disown(nth(1)), api.ErrNone)
	for _, s := range []string{"255.255.255.255/32", "0.0.0.0/0", "0.0.0.0/32", "0.0.1.0/24"} {
		own(t, r, s)
		want(t, "Own again", r.Own(prefix(s)), api.ErrExist)
		got, is := r.Best(prefix(s))
		if !is || got.To != prefix(s) || got.From != 0 || !attr.Same(got.Attr, attr.Own()) {
			t.Errorf("Best of %s: %v, %v", s, got, is)
		}
	}
	holds(t, r, "0.0.0.0/0 -<0, 0.0.0.0/32 -<0, 0.0.1.0/24 -<0, 255.255.255.255/32 -<0")
	want(t, "Disown", r.Disown(nth(1)), nil)
	want(t, "Disown again", r.Disown(nth(1)), api.ErrNone)
	is(t, r, "0.0.1.0/24", "")
	own(t, r, "0.0.1.0/24")
	is(t, r, "0.0.1.0/24", "-<0")
	for _, peer := range []int{0, self, 1, -1} {
		told(t, r, peer, "")
	}
}

func TestOwnFull(t *testing.T) {
	r := fresh(t)
	for n := range api.MaxRoutes {
		want(t, fmt.Sprint("Own ", n), r.Own(nth(n)), nil)
	}
	want(t, "one more", r.Own(nth(60)), api.ErrFull)
	want(t, "one that is there", r.Own(nth(59)), api.ErrExist)
	want(t, "one that is none", r.Own(api.Prefix{Addr: 1, Len: 24}), api.ErrShape)
	want(t, "one that is none", r.Own(api.Prefix{Len: 40}), api.ErrBound)
	is(t, r, "0.0.60.0/24", "")
	want(t, "told", r.Learn(7, nth(60), way(7)), nil)
	want(t, "told, and still one more", r.Own(nth(60)), api.ErrFull)
	is(t, r, "0.0.60.0/24", "7<7")
	want(t, "Disown", r.Disown(nth(7)), nil)
	want(t, "now there is room", r.Own(nth(60)), nil)
	want(t, "and no more", r.Own(nth(7)), api.ErrFull)
	if n := len(r.All()); n != 60 {
		t.Error("All:", n)
	}
}

// The own one is best, however good others are, and however it is with who was first.
func TestOwnIsBest(t *testing.T) {
	better := api.Attr{Pref: 1000}
	r := fresh(t)
	learn(t, r, 1, "0.0.1.0/24", better)
	own(t, r, "0.0.1.0/24", "0.0.2.0/24")
	learn(t, r, 1, "0.0.2.0/24", better)
	is(t, r, "0.0.1.0/24", "-<0")
	is(t, r, "0.0.2.0/24", "-<0")
	holds(t, r, "0.0.1.0/24 -<0, 0.0.2.0/24 -<0")
	told(t, r, 1, "0.0.1.0/24 -<1, 0.0.2.0/24 -<1")
	want(t, "Disown", r.Disown(nth(1)), nil)
	if got, is := r.Best(nth(1)); !is || got.From != 1 || got.Attr.Pref != 1000 {
		t.Errorf("Best: %v, %v", got, is)
	}
	want(t, "Lose", r.Lose(1, nth(2)), nil)
	is(t, r, "0.0.2.0/24", "-<0")
	want(t, "Disown", r.Disown(nth(2)), nil)
	is(t, r, "0.0.2.0/24", "")
	holds(t, r, "0.0.1.0/24 -<1")
}

// ladder of what may be told: each is better than the next one, by another thing.
func ladder() []api.Route {
	return []api.Route{
		{From: 9, Attr: api.Attr{Path: []int{9, 3, 4}, Pref: 101, Med: 9, Origin: 2}},
		{From: 8, Attr: api.Attr{Path: []int{8, 3}, Pref: 100, Med: 9, Origin: 2}},
		{From: 12, Attr: api.Attr{Path: []int{9, 3, 4}, Pref: 100, Med: 9}},
		{From: 7, Attr: api.Attr{Path: []int{9, 3, 4}, Pref: 100, Med: 8, Origin: 1}},
		{From: 4, Attr: api.Attr{Path: []int{9, 3, 4}, Pref: 100, Med: 9, Origin: 1}},
		{From: 6, Attr: api.Attr{Path: []int{1, 3, 4}, Pref: 100, Med: 9, Origin: 1}},
		{From: 10, Attr: api.Attr{Path: []int{1, 2, 3}, Pref: 100, Med: 9, Origin: 1}},
		{From: 11, Attr: api.Attr{Path: []int{}, Pref: 99, Tags: []int{1}}},
	}
}

// The same is best, in whatever order it was heard, and so as all of it is lost.
func TestBestInAnyOrder(t *testing.T) {
	l := ladder()
	to := prefix("10.0.0.0/8")
	random := rand.New(rand.NewSource(8))
	for range 300 {
		r := fresh(t)
		least := len(l)
		for _, at := range random.Perm(len(l)) {
			want(t, "Learn", r.Learn(l[at].From, to, l[at].Attr), nil)
			least = min(least, at)
			if got, is := r.Best(to); !is || got.To != to || got.From != l[least].From || !attr.Same(got.Attr, l[least].Attr) {
				t.Fatalf("Best: %v, want that of %d", got, l[least].From)
			}
		}
		lost := map[int]bool{}
		for _, at := range random.Perm(len(l)) {
			want(t, "Lose", r.Lose(l[at].From, to), nil)
			lost[at] = true
			next := slices.IndexFunc(l, func(x api.Route) bool {
				return !lost[slices.IndexFunc(l, func(y api.Route) bool { return y.From == x.From })]
			})
			got, is := r.Best(to)
			if is != (next >= 0) || is && got.From != l[next].From {
				t.Fatalf("Best: %v, %v, when %v are lost", got, is, lost)
			}
		}
		holds(t, r, "")
	}
}

func TestAllAndToldRise(t *testing.T) {
	l := []string{"0.0.0.0/0", "0.0.0.0/1", "0.0.0.0/32", "0.0.0.1/32", "9.0.0.0/8", "10.0.0.0/7", "10.0.0.0/8", "10.0.0.0/32", "100.0.0.0/8", "128.0.0.0/1", "255.255.255.255/32"}
	random := rand.New(rand.NewSource(9))
	for range 50 {
		r := fresh(t)
		var all, seven, eight []string
		for _, at := range random.Perm(len(l)) {
			learn(t, r, 7+at%2, l[at], way(7+at%2))
		}
		for at, s := range l {
			x := fmt.Sprint(s, " ", 7+at%2, "<", 7+at%2)
			all = append(all, x)
			if at%2 == 0 {
				seven = append(seven, x)
			} else {
				eight = append(eight, x)
			}
		}
		holds(t, r, join(all))
		told(t, r, 7, join(seven))
		told(t, r, 8, join(eight))
		told(t, r, 9, "")
	}
}

func join(l []string) string {
	out := ""
	for at, s := range l {
		if at > 0 {
			out += ", "
		}
		out += s
	}
	return out
}

func TestNothing(t *testing.T) {
	r := fresh(t)
	if len(r.All()) != 0 {
		t.Error("All:", r.All())
	}
	for _, peer := range []int{7, 0, self, -1, 1000, 1001, math.MinInt, math.MaxInt} {
		if len(r.Told(peer)) != 0 {
			t.Error("Told:", r.Told(peer))
		}
	}
	is(t, r, "0.0.0.0/0", "")
	is(t, r, "10.0.0.0/8", "")
}

// model of a rib: lists alone, gone through each time.
type model struct {
	as   int
	told []api.Route
	own  []api.Prefix
}

func (m *model) at(peer int, to api.Prefix) int {
	return slices.IndexFunc(m.told, func(r api.Route) bool { return r.From == peer && r.To == to })
}

func (m *model) count(peer int) int {
	n := 0
	for _, r := range m.told {
		if r.From == peer {
			n++
		}
	}
	return n
}

func (m *model) learn(peer int, to api.Prefix, a api.Attr) error {
	at := m.at(peer, to)
	switch {
	case peer < 1 || peer > 1000:
		return api.ErrBound
	case peer == m.as:
		return api.ErrShape
	case ip.Check(to) != nil:
		return ip.Check(to)
	case a.Pref > 1000:
		return api.ErrBound
	case slices.Contains(a.Path, m.as):
		if at >= 0 {
			m.told = slices.Delete(m.told, at, at+1)
		}
		return api.ErrLoop
	case at >= 0:
		m.told[at].Attr = a
		return nil
	case m.count(peer) >= 60:
		return api.ErrFull
	}
	m.told = append(m.told, api.Route{To: to, Attr: a, From: peer})
	return nil
}

func (m *model) lose(peer int, to api.Prefix) error {
	at := m.at(peer, to)
	if at < 0 {
		return api.ErrNone
	}
	m.told = slices.Delete(m.told, at, at+1)
	return nil
}

func (m *model) down(peer int) int {
	n := m.count(peer)
	m.told = slices.DeleteFunc(m.told, func(r api.Route) bool { return r.From == peer })
	return n
}

func (m *model) disown(to api.Prefix) error {
	at := slices.Index(m.own, to)
	if at < 0 {
		return api.ErrNone
	}
	m.own = slices.Delete(m.own, at, at+1)
	return nil
}

func (m *model) doOwn(to api.Prefix) error {
	switch {
	case ip.Check(to) != nil:
		return ip.Check(to)
	case slices.Contains(m.own, to):
		return api.ErrExist
	case len(m.own) >= 60:
		return api.ErrFull
	}
	m.own = append(m.own, to)
	return nil
}

// best: the own one, or the one of a prefix that is better than all others of it.
func (m *model) best(to api.Prefix) []api.Route {
	if slices.Contains(m.own, to) {
		return []api.Route{{To: to, Attr: api.Attr{Pref: 100}}}
	}
	for _, x := range m.told {
		better := x.To == to
		for _, y := range m.told {
			better = better && (y.To != to || y.From == x.From || best.Better(x, y))
		}
		if better {
			return []api.Route{x}
		}
	}
	return nil
}

// agree: is a rib what its model is?
func (m *model) agree(t *testing.T, r *rib.Rib, places []api.Prefix) {
	t.Helper()
	// The places rise.
	var all []api.Route
	tells := map[int][]api.Route{}
	for _, to := range places {
		want := m.best(to)
		all = append(all, want...)
		got, is := r.Best(to)
		if is != (len(want) > 0) || is && fmt.Sprint(got) != fmt.Sprint(want[0]) || !is && fmt.Sprint(got) != fmt.Sprint(api.Route{}) {
			t.Fatalf("Best of %v: %v, %v, want %v", to, got, is, want)
		}
		for peer := range 12 {
			if at := m.at(peer, to); at >= 0 {
				tells[peer] = append(tells[peer], m.told[at])
			}
		}
	}
	if got := r.All(); fmt.Sprint(got) != fmt.Sprint(all) {
		t.Fatalf("All: %v, want %v", got, all)
	}
	for peer := range 12 {
		if got := r.Told(peer); fmt.Sprint(got) != fmt.Sprint(tells[peer]) {
			t.Fatalf("Told of %d: %v, want %v", peer, got, tells[peer])
		}
	}
}

// somePlaces: prefixes in rising order, of which the first is wrong.
func somePlaces(count int) []api.Prefix {
	out := []api.Prefix{{Addr: -1, Len: 9}, {}, {Len: 8}, {Len: 24}}
	for n := range count {
		out = append(out, nth(n+1))
	}
	return append(out, api.Prefix{Addr: last, Len: 32})
}

func someAttr(r *rand.Rand) api.Attr {
	a := api.Attr{Pref: 100 + r.Intn(2), Med: r.Intn(2), Origin: r.Intn(2)}
	for range r.Intn(4) {
		a.Path = append(a.Path, 1+r.Intn(11))
	}
	if r.Intn(30) == 0 {
		a.Pref = 1001
	}
	for tag := range r.Intn(3) {
		a.Tags = append(a.Tags, tag+1)
	}
	return a
}

// P80 to P82, of rows of calls at random, on few places and on more than there is room for.
func TestAlwaysAsTheModel(t *testing.T) {
	for seed := range int64(60) {
		random := rand.New(rand.NewSource(seed))
		places := somePlaces([]int{0, 3, 70}[seed%3])
		r, m := fresh(t), &model{as: self}
		for step := range 400 {
			peer, to := random.Intn(10), places[random.Intn(len(places))]
			if seed%3 == 2 {
				peer %= 3
			}
			switch random.Intn(10) {
			case 0:
				want(t, "Own", r.Own(to), m.doOwn(to))
			case 1:
				want(t, "Disown", r.Disown(to), m.disown(to))
			case 2:
				want(t, "Lose", r.Lose(peer, to), m.lose(peer, to))
			case 3:
				if random.Intn(12) == 0 {
					if got, want := r.Down(peer), m.down(peer); got != want {
						t.Fatalf("Down: %d, want %d", got, want)
					}
				}
			default:
				a := someAttr(random)
				want(t, "Learn", r.Learn(peer, to, a), m.learn(peer, to, a))
			}
			if step%20 == 0 || seed%3 == 0 {
				m.agree(t, r, places)
			}
			if t.Failed() {
				t.Fatal("seed", seed, "step", step)
			}
		}
	}
}

// P82: what is best is what somebody told, and better than all else that was told of it.
func TestAlwaysToldAndBetter(t *testing.T) {
	for seed := range int64(60) {
		random := rand.New(rand.NewSource(seed))
		r := fresh(t)
		for range 200 {
			r.Learn(1+random.Intn(9), nth(random.Intn(6)), someAttr(random))
		}
		for n := range 6 {
			got, is := r.Best(nth(n))
			told := 0
			for peer := 1; peer < 12; peer++ {
				for _, x := range r.Told(peer) {
					if x.To != nth(n) {
						continue
					}
					told++
					same := fmt.Sprint(x) == fmt.Sprint(got)
					if !is || same != (peer == got.From) || !same && !best.Better(got, x) {
						t.Fatalf("Best is %v, %v, and %d told %v", got, is, peer, x)
					}
				}
			}
			if is != (told > 0) {
				t.Fatalf("Best is %v, %v, and %d told of it", got, is, told)
			}
		}
	}
}
