package rib_test

import (
	"fmt"
	"strings"
	"testing"

	"herepath/api"
	"herepath/attr"
	"herepath/ip"
	"herepath/rib"
)

// The faces stay as given.
var (
	_ func(as int) (*rib.Rib, error)                              = rib.New
	_ func(r *rib.Rib, peer int, to api.Prefix, a api.Attr) error = (*rib.Rib).Learn
	_ func(r *rib.Rib, peer int, to api.Prefix) error             = (*rib.Rib).Lose
	_ func(r *rib.Rib, peer int) int                              = (*rib.Rib).Down
	_ func(r *rib.Rib, to api.Prefix) error                       = (*rib.Rib).Own
	_ func(r *rib.Rib, to api.Prefix) error                       = (*rib.Rib).Disown
	_ func(r *rib.Rib, to api.Prefix) (api.Route, bool)           = (*rib.Rib).Best
	_ func(r *rib.Rib) []api.Route                                = (*rib.Rib).All
	_ func(r *rib.Rib, peer int) []api.Route                      = (*rib.Rib).Told
)

const (
	self = 5
	last = 1<<32 - 1
)

func prefix(s string) api.Prefix {
	p, err := ip.Read(s)
	if err != nil {
		panic(s)
	}
	return p
}

// nth of many prefixes that rise, of Len 24.
func nth(n int) api.Prefix { return api.Prefix{Addr: n << 8, Len: 24} }

// way by a path, with nothing else told.
func way(path ...int) api.Attr { return api.Attr{Path: path, Pref: 100} }

func fresh(t *testing.T) *rib.Rib {
	t.Helper()
	r, err := rib.New(self)
	if err != nil || r == nil {
		t.Fatal("New:", err)
	}
	return r
}

// want an error, just as it stands in package api.
func want(t *testing.T, what string, got, want error) {
	t.Helper()
	if got != want {
		t.Errorf("%s: %v, want %v", what, got, want)
	}
}

func learn(t *testing.T, r *rib.Rib, peer int, to string, a api.Attr) {
	t.Helper()
	want(t, fmt.Sprint("Learn of ", peer, " ", to, " ", a), r.Learn(peer, prefix(to), a), nil)
}

func own(t *testing.T, r *rib.Rib, to ...string) {
	t.Helper()
	for _, s := range to {
		want(t, "Own "+s, r.Own(prefix(s)), nil)
	}
}

// spell routes, each as its prefix, its path and who told it.
func spell(l []api.Route) string {
	var out []string
	for _, r := range l {
		path, _, _ := strings.Cut(attr.Text(r.Attr), " ")
		out = append(out, fmt.Sprint(ip.Text(r.To), " ", path, "<", r.From))
	}
	return strings.Join(out, ", ")
}

// holds: all that is there, the best of each.
func holds(t *testing.T, r *rib.Rib, all string) {
	t.Helper()
	if got := spell(r.All()); got != all {
		t.Errorf("All: %s; want %s", got, all)
	}
}

func told(t *testing.T, r *rib.Rib, peer int, all string) {
	t.Helper()
	if got := spell(r.Told(peer)); got != all {
		t.Errorf("Told of %d: %s; want %s", peer, got, all)
	}
}

// is: what is best to a prefix; empty: nothing, and no route with it.
func is(t *testing.T, r *rib.Rib, to, best string) {
	t.Helper()
	got, is := r.Best(prefix(to))
	if best == "" {
		if is || fmt.Sprint(got) != fmt.Sprint(api.Route{}) {
			t.Errorf("Best of %s: %v, %v, want none", to, got, is)
		}
		return
	}
	if s := spell([]api.Route{got}); !is || s != to+" "+best {
		t.Errorf("Best of %s: %s, %v; want %s", to, s, is, best)
	}
}

// whole: all that a rib can be asked of the first neighbours, and of what it has.
func whole(r *rib.Rib) string {
	out := fmt.Sprintf("%#v", r.All())
	for peer := range 15 {
		out += fmt.Sprintf("\n%d: %#v", peer, r.Told(peer))
		for _, x := range r.Told(peer) {
			b, is := r.Best(x.To)
			out += fmt.Sprintf(" %#v %v", b, is)
		}
	}
	return out
}
