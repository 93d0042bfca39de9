package wire_test

import (
	"fmt"
	"math/rand"
	"slices"
	"strings"
	"testing"

	"herepath/api"
	"herepath/wire"
)

// same as another one, asked without the package; a nil list and an empty one are one thing.
func same(a, b api.Msg) bool {
	return a.Kind == b.Kind && a.N == b.N && fmt.Sprint(a.Drops, a.Adds) == fmt.Sprint(b.Drops, b.Adds)
}

// spellPrefix, right or not in its bits, by the words of the chapter alone.
func spellPrefix(p api.Prefix) string {
	return fmt.Sprintf("%d.%d.%d.%d/%d", p.Addr>>24, p.Addr>>16&255, p.Addr>>8&255, p.Addr&255, p.Len)
}

func spellList(l []int, mark string) string {
	if len(l) == 0 {
		return "-"
	}
	return strings.Trim(strings.ReplaceAll(fmt.Sprint(l), " ", mark), "[]")
}

func spellAttr(a api.Attr) string {
	return fmt.Sprintf("%s %d %d %d %s", spellList(a.Path, "-"), a.Pref, a.Med, a.Origin, spellList(a.Tags, ","))
}

// spell a message of any kind, right or not, by the words of the chapter alone.
func spell(m api.Msg) string {
	s := m.Kind
	if m.Kind == "open" || m.Kind == "note" {
		s += fmt.Sprintf(" %d", m.N)
	}
	s += "\n"
	for _, p := range m.Drops {
		s += "- " + spellPrefix(p) + "\n"
	}
	for _, r := range m.Adds {
		s += "+ " + spellPrefix(r.To) + " " + spellAttr(r.Attr) + "\n"
	}
	return s
}

func wantBoth(t *testing.T, m api.Msg, s string) {
	t.Helper()
	if got, err := wire.Text(m); got != s || err != nil {
		t.Errorf("Text(%v) = %q, %v, want %q", m, got, err, s)
	}
	if got, err := wire.Read(s); !same(got, m) || err != nil {
		t.Errorf("Read(%q) = %v, %v, want %v", s, got, err, m)
	}
}

func TestTextAndBack(t *testing.T) {
	for s, m := range map[string]api.Msg{
		"open 1\n":                      {Kind: "open", N: 1},
		"open 10\n":                     {Kind: "open", N: 10},
		"open 999\n":                    {Kind: "open", N: 999},
		"open 1000\n":                   {Kind: "open", N: 1000},
		"keep\n":                        {Kind: "keep"},
		"note 0\n":                      {Kind: "note"},
		"note 6\n":                      {Kind: "note", N: 6},
		"note 1000\n":                   {Kind: "note", N: 1000},
		"news\n":                        {Kind: "news"},
		"news\n- 0.0.0.0/0\n":           {Kind: "news", Drops: pres("0.0.0.0/0")},
		"news\n- 255.255.255.255/32\n":  {Kind: "news", Drops: pres("255.255.255.255/32")},
		"news\n+ 0.0.0.0/0 - 0 0 0 -\n": {Kind: "news", Adds: []api.Route{{}}},
		"news\n- 10.0.0.0/8\n- 10.0.0.0/9\n- 11.0.0.0/8\n": {Kind: "news", Drops: pres("10.0.0.0/8", "10.0.0.0/9", "11.0.0.0/8")},
		"news\n+ 10.0.0.0/8 2-1 100 5 1 7,50\n+ 10.0.0.0/9 - 1000 1000 2 9999\n": {Kind: "news", Adds: []api.Route{
			{To: pre("10.0.0.0/8"), Attr: api.Attr{Path: []int{2, 1}, Pref: 100, Med: 5, Origin: 1, Tags: []int{7, 50}}},
			{To: pre("10.0.0.0/9"), Attr: api.Attr{Pref: 1000, Med: 1000, Origin: 2, Tags: []int{9999}}},
		}},
		// Adds need not be above Drops.
		"news\n- 200.0.0.0/8\n+ 10.0.0.0/8 - 100 0 0 -\n+ 210.0.0.0/8 - 100 0 0 -\n": {Kind: "news", Drops: pres("200.0.0.0/8"), Adds: routes(pres("10.0.0.0/8", "210.0.0.0/8")...)},
	} {
		wantBoth(t, m, s)
		if err := wire.Check(m); err != nil {
			t.Error(m, err)
		}
	}
}

func TestTextOfMaxRoutes(t *testing.T) {
	m := api.Msg{Kind: "news", Drops: many(0, 60), Adds: routes(many(60, 60)...)}
	s := spell(m)
	if n := strings.Count(s, "\n"); n != 121 {
		t.Fatal(n)
	}
	wantBoth(t, m, s)
}

// longest: a message of MaxRoutes of Adds as long as may be (7980 bytes of lines), and one of Drops.
func longest(drop string) api.Msg {
	a := api.Attr{Path: slices.Repeat([]int{1000}, 12), Pref: 1000, Med: 1000, Origin: 2, Tags: []int{9992, 9993, 9994, 9995, 9996, 9997, 9998, 9999}}
	m := api.Msg{Kind: "news", Drops: pres(drop), Adds: routes(many(1<<32-60, 60)...)}
	for i := range m.Adds {
		m.Adds[i].Attr = a
	}
	return m
}

// P51 sets no bound on what Text writes, and one on what Read reads: what is longer is written, and not read.
func TestMaxText(t *testing.T) {
	for drop, length := range map[string]int{"10.0.0.0/12": 7999, "100.0.0.0/12": 8000} {
		m := longest(drop)
		if s := spell(m); len(s) != length {
			t.Fatal(drop, len(s))
		}
		wantBoth(t, m, spell(m))
	}
	more := longest("100.16.0.0/12")
	most := longest("100.0.0.0/12")
	most.Drops = many(1<<32-120, 60)
	for _, m := range []api.Msg{more, most} {
		s, err := wire.Text(m)
		if len(s) <= 8000 || s != spell(m) || err != nil {
			t.Errorf("%d bytes, %v", len(s), err)
		}
		wantRead(t, s, api.Msg{}, bare(api.ErrBound))
	}
	if n := len(spell(more)); n != 8001 {
		t.Error(n)
	}
}

// somePrefix of few, so that some meet.
func somePrefix(r *rand.Rand) api.Prefix {
	n := r.Intn(33)
	return api.Prefix{Addr: r.Intn(1<<32) >> (32 - n) << (32 - n), Len: n}
}

func someAttr(r *rand.Rand) api.Attr {
	a := api.Attr{Pref: r.Intn(1001), Med: r.Intn(1001), Origin: r.Intn(3)}
	for range r.Intn(6) {
		a.Path = append(a.Path, 1+r.Intn(1000))
	}
	tag := 0
	for range r.Intn(5) {
		tag += 1 + r.Intn(1200)
		a.Tags = append(a.Tags, tag)
	}
	return a
}

// someMsg that is right, by sorting and sharing out prefixes that differ.
func someMsg(r *rand.Rand) api.Msg {
	switch r.Intn(8) {
	case 0:
		return api.Msg{Kind: "open", N: 1 + r.Intn(1000)}
	case 1:
		return api.Msg{Kind: "note", N: r.Intn(1001)}
	case 2:
		return api.Msg{Kind: "keep"}
	}
	m := api.Msg{Kind: "news"}
	seen := map[api.Prefix]int{}
	var l []api.Prefix
	for range r.Intn(60) {
		p := somePrefix(r)
		if seen[p]++; seen[p] == 1 {
			l = append(l, p)
		}
	}
	slices.SortFunc(l, func(x, y api.Prefix) int {
		if x.Addr != y.Addr {
			return x.Addr - y.Addr
		}
		return x.Len - y.Len
	})
	for _, p := range l {
		if r.Intn(2) == 0 {
			m.Drops = append(m.Drops, p)
		} else {
			m.Adds = append(m.Adds, api.Route{To: p, Attr: someAttr(r)})
		}
	}
	return m
}

// P52
func TestAlwaysReadAsWritten(t *testing.T) {
	r := rand.New(rand.NewSource(1))
	for range 5000 {
		m := someMsg(r)
		if err := wire.Check(m); err != nil {
			t.Fatal(m, err)
		}
		wantBoth(t, m, spell(m))
	}
	for n := range 1001 {
		wantBoth(t, api.Msg{Kind: "note", N: n}, fmt.Sprintf("note %d\n", n))
		if n > 0 {
			wantBoth(t, api.Msg{Kind: "open", N: n}, fmt.Sprintf("open %d\n", n))
		}
	}
}
