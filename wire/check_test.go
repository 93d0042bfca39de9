package wire_test

import (
	"cmp"
	"fmt"
	"math"
	"net/netip"
	"slices"
	"testing"

	"herepath/api"
	"herepath/wire"
)

// The faces stay as given.
var (
	_ func(api.Msg) error           = wire.Check
	_ func(api.Msg) (string, error) = wire.Text
	_ func(string) (api.Msg, error) = wire.Read
)

// fault that is wanted: no place below 0.
type fault struct {
	at  int
	err error
}

func bare(err error) fault { return fault{-1, err} }

func (f fault) check(t *testing.T, what string, got error) {
	t.Helper()
	if f.err == nil || f.at < 0 {
		if got != f.err {
			t.Errorf("%s: error %#v, want %v, bare", what, got, f.err)
		}
		return
	}
	if x, ok := got.(*api.Fault); !ok || x.At != f.at || x.Err != f.err {
		t.Errorf("%s: error %#v, want %v at %d", what, got, f.err, f.at)
	}
}

// wantCheck holds both Check and Text to a fault: Text has Check's, with their places.
func wantCheck(t *testing.T, m api.Msg, want fault) {
	t.Helper()
	what := fmt.Sprintf("%.300s", fmt.Sprint(m))
	want.check(t, "Check "+what, wire.Check(m))
	s, err := wire.Text(m)
	want.check(t, "Text "+what, err)
	if (s == "") != (want.err != nil) {
		t.Errorf("Text %s = %q, with %v", what, s, err)
	}
}

// pre: a prefix by its text, right or not in its bits, without the package ip.
func pre(s string) api.Prefix {
	p := netip.MustParsePrefix(s)
	b := p.Addr().As4()
	return api.Prefix{Addr: int(b[0])<<24 | int(b[1])<<16 | int(b[2])<<8 | int(b[3]), Len: p.Bits()}
}

func pres(l ...string) []api.Prefix {
	var out []api.Prefix
	for _, s := range l {
		out = append(out, pre(s))
	}
	return out
}

// route with what is told by default.
func route(to api.Prefix) api.Route { return api.Route{To: to, Attr: api.Attr{Pref: 100}} }

func routes(l ...api.Prefix) []api.Route {
	var out []api.Route
	for _, p := range l {
		out = append(out, route(p))
	}
	return out
}

// many prefixes that rise, from an address on.
func many(from, count int) []api.Prefix {
	var out []api.Prefix
	for i := range count {
		out = append(out, api.Prefix{Addr: from + i, Len: 32})
	}
	return out
}

func TestCheckKinds(t *testing.T) {
	for _, m := range []api.Msg{{Kind: "open", N: 1}, {Kind: "keep"}, {Kind: "note"}, {Kind: "news"}} {
		wantCheck(t, m, fault{})
		m.Drops, m.Adds = []api.Prefix{}, []api.Route{}
		wantCheck(t, m, fault{})
	}
	for _, kind := range []string{"", " ", "Open", "OPEN", "open ", " open", "ope", "opens", "open 1", "keep\n", "keeps", "kee", "new", "New", "news\n", "newsnews", "notes", "not", "Note", "what", "close", "\x00", "\xff", "-", "+", "open\x00", "ｏｐｅｎ"} {
		// What else is wrong comes behind it.
		for _, m := range []api.Msg{{N: 1}, {N: 0}, {N: -1}, {N: 1001}, {N: 1, Drops: many(0, 61)}, {Adds: make([]api.Route, 61)}, {Drops: []api.Prefix{{Len: 33}}}} {
			m.Kind = kind
			wantCheck(t, m, bare(api.ErrKind))
		}
	}
}

func TestCheckNumbers(t *testing.T) {
	for _, c := range []struct {
		kind     string
		from, to int
		err      error
	}{
		{"open", 1, 1000, api.ErrBound},
		{"note", 0, 1000, api.ErrBound},
		{"keep", 0, 0, api.ErrShape},
		{"news", 0, 0, api.ErrShape},
	} {
		for _, n := range []int{math.MinInt, math.MinInt32, -1001, -1000, -2, -1, 0, 1, 2, 3, 500, 998, 999, 1000, 1001, 1002, 9999, math.MaxInt32, 1 << 32, 1<<32 + 1, math.MaxInt} {
			want := fault{}
			if n < c.from || n > c.to {
				want = bare(c.err)
			}
			wantCheck(t, api.Msg{Kind: c.kind, N: n}, want)
			if want.err == nil {
				continue
			}
			// A wrong N is told ahead of lists, whatever they are.
			wantCheck(t, api.Msg{Kind: c.kind, N: n, Drops: many(0, 1)}, want)
			wantCheck(t, api.Msg{Kind: c.kind, N: n, Drops: many(0, 61), Adds: make([]api.Route, 61)}, want)
			wantCheck(t, api.Msg{Kind: c.kind, N: n, Adds: []api.Route{{From: 1}}}, want)
		}
	}
}

func TestCheckListsOfNewsAlone(t *testing.T) {
	for _, m := range []api.Msg{{Kind: "open", N: 1}, {Kind: "open", N: 1000}, {Kind: "keep"}, {Kind: "note"}, {Kind: "note", N: 1000}} {
		for _, drops := range [][]api.Prefix{nil, many(0, 1), many(0, 60), many(0, 61), {{Len: 33}}, {{Addr: 1}}} {
			for _, adds := range [][]api.Route{nil, routes(many(0, 1)...), routes(many(0, 60)...), make([]api.Route, 61), {{From: 1}}} {
				if m.Drops, m.Adds = drops, adds; len(drops)+len(adds) > 0 {
					wantCheck(t, m, bare(api.ErrShape))
				}
			}
		}
	}
}

func TestCheckMaxRoutes(t *testing.T) {
	for _, drops := range []int{0, 1, 59, 60, 61, 62, 1000} {
		for _, adds := range []int{0, 1, 59, 60, 61, 62, 1000} {
			m := api.Msg{Kind: "news", Drops: many(0, drops), Adds: routes(many(5000, adds)...)}
			want := fault{}
			if drops > 60 || adds > 60 {
				want = bare(api.ErrFull)
			}
			wantCheck(t, m, want)
			// Too many are told ahead of what is wrong at a place.
			if want.err != nil && drops > 0 && adds > 0 {
				m.Drops[0].Len, m.Adds[0].From = 33, 1
				wantCheck(t, m, want)
			}
		}
	}
}

var notPrefixes = []struct {
	p   api.Prefix
	err error
}{
	{api.Prefix{Addr: -1, Len: 0}, api.ErrBound}, {api.Prefix{Addr: -1, Len: 32}, api.ErrBound}, {api.Prefix{Addr: 1 << 32, Len: 0}, api.ErrBound}, {api.Prefix{Addr: 1<<32 + 1, Len: 32}, api.ErrBound},
	{api.Prefix{Addr: 0, Len: -1}, api.ErrBound}, {api.Prefix{Addr: 0, Len: 33}, api.ErrBound}, {api.Prefix{Addr: math.MinInt, Len: math.MinInt}, api.ErrBound}, {api.Prefix{Addr: math.MaxInt, Len: math.MaxInt}, api.ErrBound},
	{api.Prefix{Addr: 1, Len: 31}, api.ErrShape}, {api.Prefix{Addr: 1, Len: 0}, api.ErrShape}, {api.Prefix{Addr: 1<<32 - 1, Len: 31}, api.ErrShape}, {api.Prefix{Addr: 10 << 24, Len: 6}, api.ErrShape},
}

// Each place of each of the two lists with a prefix that is none: what else is wrong with it, and what is wrong behind it, is not told.
func TestCheckPrefixOfEachPlace(t *testing.T) {
	for _, c := range notPrefixes {
		for _, count := range []int{1, 2, 3, 60} {
			for at := range count {
				drops := many(100, count)
				drops[at] = c.p
				wantCheck(t, api.Msg{Kind: "news", Drops: drops}, fault{at, c.err})
				wantCheck(t, api.Msg{Kind: "news", Drops: drops, Adds: []api.Route{{To: api.Prefix{Len: 33}}}}, fault{at, c.err})
				adds := routes(many(100, count)...)
				adds[at] = api.Route{To: c.p, Attr: api.Attr{Pref: -1}, From: 1}
				wantCheck(t, api.Msg{Kind: "news", Adds: adds}, fault{at, c.err})
				wantCheck(t, api.Msg{Kind: "news", Drops: many(100, 3), Adds: adds}, fault{at, c.err})
			}
		}
	}
}

func TestCheckPrefixesRise(t *testing.T) {
	for _, c := range []struct {
		l  []api.Prefix
		at int
	}{
		{pres("0.0.0.0/0", "255.255.255.255/32"), -1},
		{pres("10.0.0.0/8", "10.0.0.0/9", "10.0.0.0/32", "10.0.0.1/32", "11.0.0.0/8"), -1},
		{pres("10.128.0.0/9", "11.0.0.0/8"), -1},
		{pres("10.0.0.0/8", "10.0.0.0/8"), 1},
		{pres("0.0.0.0/0", "0.0.0.0/0"), 1},
		{pres("10.0.0.0/9", "10.0.0.0/8"), 1},
		{pres("11.0.0.0/8", "10.0.0.0/9"), 1},
		{pres("10.0.0.1/32", "10.0.0.0/32"), 1},
		{pres("1.0.0.0/8", "2.0.0.0/8", "1.0.0.0/8"), 2},
		{pres("1.0.0.0/8", "3.0.0.0/8", "2.0.0.0/8", "4.0.0.0/8"), 2},
		{pres("3.0.0.0/8", "2.0.0.0/8", "1.0.0.0/8"), 1},
		{append(many(0, 59), api.Prefix{Addr: 58, Len: 32}), 59},
		{append(many(1, 59), api.Prefix{Addr: 0, Len: 0}), 59},
		// Not above the one ahead at one place, and none at the next one.
		{append(pres("2.0.0.0/8", "2.0.0.0/8"), api.Prefix{Len: 33}), 1},
	} {
		want := fault{}
		if c.at >= 0 {
			want = fault{c.at, api.ErrOrder}
		}
		wantCheck(t, api.Msg{Kind: "news", Drops: c.l}, want)
		wantCheck(t, api.Msg{Kind: "news", Adds: routes(c.l...)}, want)
		if c.at < 0 {
			continue
		}
		// Drops come ahead of Adds; order ahead of what is told, and of From.
		wantCheck(t, api.Msg{Kind: "news", Drops: c.l, Adds: []api.Route{{From: 1}}}, want)
		adds := routes(c.l...)
		adds[c.at].Attr.Pref, adds[c.at].From = -1, 1
		wantCheck(t, api.Msg{Kind: "news", Adds: adds}, want)
	}
}

var notAttrs = []struct {
	a   api.Attr
	err error
}{
	{api.Attr{Path: make([]int, 13)}, api.ErrFull}, {api.Attr{Tags: make([]int, 9)}, api.ErrFull},
	{api.Attr{Path: []int{1, 2, 3, 0}}, api.ErrBound}, {api.Attr{Path: []int{1001}}, api.ErrBound},
	{api.Attr{Pref: -1}, api.ErrBound}, {api.Attr{Pref: 1001}, api.ErrBound}, {api.Attr{Med: -1}, api.ErrBound}, {api.Attr{Med: 1001}, api.ErrBound}, {api.Attr{Origin: 3}, api.ErrBound}, {api.Attr{Origin: -1}, api.ErrBound},
	{api.Attr{Tags: []int{0}}, api.ErrBound}, {api.Attr{Tags: []int{1, 10000}}, api.ErrBound},
	{api.Attr{Tags: []int{2, 1}}, api.ErrOrder}, {api.Attr{Tags: []int{1, 2, 3, 3}}, api.ErrOrder},
}

// The place is that of Adds: that of a path or of tags is not told.
func TestCheckAttrOfEachPlace(t *testing.T) {
	for _, c := range notAttrs {
		for _, count := range []int{1, 2, 3, 60} {
			for at := range count {
				adds := routes(many(100, count)...)
				adds[at].Attr = c.a
				wantCheck(t, api.Msg{Kind: "news", Adds: adds}, fault{at, c.err})
				adds[at].From = 7
				wantCheck(t, api.Msg{Kind: "news", Drops: many(100, 60), Adds: adds}, fault{at, c.err})
			}
		}
	}
}

func TestCheckFrom(t *testing.T) {
	for _, from := range []int{1, -1, 2, 1000, 1001, math.MinInt, math.MaxInt, 1 << 32} {
		for at := range 60 {
			adds := routes(many(100, 60)...)
			adds[at].From = from
			wantCheck(t, api.Msg{Kind: "news", Adds: adds}, fault{at, api.ErrShape})
			// From is told ahead of what is among Drops, even at a place behind.
			wantCheck(t, api.Msg{Kind: "news", Drops: many(100, 60), Adds: adds}, fault{at, api.ErrShape})
			adds[59].To.Len = 33
			want := fault{at, api.ErrShape}
			if at == 59 {
				want.err = api.ErrBound
			}
			wantCheck(t, api.Msg{Kind: "news", Adds: adds}, want)
		}
	}
}

func TestCheckApart(t *testing.T) {
	for _, c := range []struct {
		drops, adds []api.Prefix
		at          int
	}{
		{pres("10.0.0.0/8"), pres("10.0.0.0/8"), 0},
		{pres("0.0.0.0/0"), pres("0.0.0.0/0"), 0},
		{pres("10.0.0.0/8"), pres("9.0.0.0/8", "10.0.0.0/8", "11.0.0.0/8"), 1},
		{pres("10.0.0.0/8", "11.0.0.0/8"), pres("9.0.0.0/8", "10.0.0.0/8", "11.0.0.0/8"), 1},
		{pres("9.0.0.0/8", "11.0.0.0/8"), pres("10.0.0.0/8", "11.0.0.0/8"), 1},
		{pres("10.0.0.0/8"), pres("10.0.0.0/9", "10.128.0.0/9"), -1},
		{pres("10.0.0.0/9"), pres("10.0.0.0/8", "10.0.0.0/10"), -1},
		{pres("9.0.0.0/8", "11.0.0.0/8"), pres("10.0.0.0/8", "12.0.0.0/8"), -1},
		{many(0, 60), many(59, 60), 0},
		{many(59, 60), many(0, 60), 59},
		{many(60, 60), many(0, 60), -1},
		{many(0, 60), many(0, 60), 0},
	} {
		want := fault{}
		if c.at >= 0 {
			want = fault{c.at, api.ErrExist}
		}
		wantCheck(t, api.Msg{Kind: "news", Drops: c.drops, Adds: routes(c.adds...)}, want)
	}
}

// complaint of a message: the least one by rank, then place, then turn, is told.
type complaint struct {
	rank, place, turn int
	want              fault
}

// model of Check: all that is wrong is gathered, and put in the order of the chapter's sentence.
func model(m api.Msg) fault {
	var all []complaint
	say := func(rank, turn int, f fault) { all = append(all, complaint{rank, f.at, turn, f}) }
	lists := map[string][2]int{"open": {1, 1000}, "note": {0, 1000}, "keep": {}, "news": {}}
	span, known := lists[m.Kind]
	if !known {
		say(0, 0, bare(api.ErrKind))
	}
	if m.N < span[0] || m.N > span[1] {
		err := api.ErrShape
		if span[1] > 0 {
			err = api.ErrBound
		}
		say(1, 0, bare(err))
	}
	if m.Kind != "news" && len(m.Drops)+len(m.Adds) > 0 {
		say(2, 0, bare(api.ErrShape))
	}
	if max(len(m.Drops), len(m.Adds)) > 60 {
		say(3, 0, bare(api.ErrFull))
	}
	prefixes := func(rank int, l []api.Prefix) {
		for i, p := range l {
			if p.Addr < 0 || p.Addr >= 1<<32 || p.Len < 0 || p.Len > 32 {
				say(rank, 0, fault{i, api.ErrBound})
			} else if p.Addr%(1<<(32-p.Len)) != 0 {
				say(rank, 1, fault{i, api.ErrShape})
			}
			if i > 0 && (l[i-1].Addr > p.Addr || l[i-1].Addr == p.Addr && l[i-1].Len >= p.Len) {
				say(rank, 2, fault{i, api.ErrOrder})
			}
		}
	}
	prefixes(4, m.Drops)
	var to []api.Prefix
	for i, r := range m.Adds {
		to = append(to, r.To)
		if r.Attr.Pref > 1000 {
			say(5, 3, fault{i, api.ErrBound})
		}
		if r.From != 0 {
			say(5, 4, fault{i, api.ErrShape})
		}
		for _, p := range m.Drops {
			if p == r.To {
				say(6, 0, fault{i, api.ErrExist})
			}
		}
	}
	prefixes(5, to)
	if len(all) == 0 {
		return fault{}
	}
	return slices.MinFunc(all, func(x, y complaint) int {
		return cmp.Or(cmp.Compare(x.rank, y.rank), cmp.Compare(x.place, y.place), cmp.Compare(x.turn, y.turn))
	}).want
}

// All messages of up to two Drops and two Adds of a few, right and wrong.
func TestCheckAgainstModel(t *testing.T) {
	ps := []api.Prefix{{Addr: 0, Len: 8}, {Addr: 1 << 24, Len: 8}, {Addr: 0, Len: 9}, {Addr: 1, Len: 8}, {Addr: 0, Len: 33}, {Addr: -1, Len: 8}}
	drops := [][]api.Prefix{nil}
	for _, p := range ps {
		drops = append(drops, []api.Prefix{p})
		for _, q := range ps {
			drops = append(drops, []api.Prefix{p, q})
		}
	}
	var rs []api.Route
	for _, p := range ps {
		rs = append(rs, api.Route{To: p}, api.Route{To: p, From: 1}, api.Route{To: p, Attr: api.Attr{Pref: 1001}}, api.Route{To: p, Attr: api.Attr{Pref: 1001}, From: 1})
	}
	adds := [][]api.Route{nil}
	for _, r := range rs {
		adds = append(adds, []api.Route{r})
		for _, q := range rs {
			adds = append(adds, []api.Route{r, q})
		}
	}
	right := 0
	for _, d := range drops {
		for _, a := range adds {
			m := api.Msg{Kind: "news", Drops: d, Adds: a}
			want := model(m)
			want.check(t, fmt.Sprint(m), wire.Check(m))
			if want.err == nil {
				right++
			}
			if len(d)+len(a) > 2 {
				continue
			}
			for _, kind := range []string{"open", "keep", "note", "news", "x"} {
				for _, n := range []int{-1, 0, 1, 1000, 1001} {
					m.Kind, m.N = kind, n
					model(m).check(t, fmt.Sprint(m), wire.Check(m))
				}
			}
		}
	}
	if right < 10 {
		t.Error("too few are right:", right)
	}
}
