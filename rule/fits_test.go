package rule_test

import (
	"math"
	"net/netip"
	"slices"
	"testing"

	"herepath/api"
	"herepath/rule"
)

// pre: a prefix by its text, right or not in its bits, without the package ip.
func pre(s string) api.Prefix {
	p := netip.MustParsePrefix(s)
	b := p.Addr().As4()
	return api.Prefix{Addr: int(b[0])<<24 | int(b[1])<<16 | int(b[2])<<8 | int(b[3]), Len: p.Bits()}
}

// rightPrefix, asked without the package ip.
func rightPrefix(p api.Prefix) bool {
	return p.Addr >= 0 && p.Addr < 1<<32 && p.Len >= 0 && p.Len <= 32 && p.Addr%(1<<(32-p.Len)) == 0
}

// fitsModel: by the first and the last address of both prefixes, and number by number.
func fitsModel(r api.Rule, to api.Prefix, a api.Attr) bool {
	if !rightPrefix(to) || !rightPrefix(r.Within) {
		return false
	}
	last := func(p api.Prefix) int { return p.Addr + 1<<(32-p.Len) - 1 }
	for _, asked := range []bool{
		r.Within.Addr <= to.Addr && last(to) <= last(r.Within),
		r.Lo <= to.Len && to.Len <= r.Hi,
		r.Tag == 0 || slices.Index(a.Tags, r.Tag) >= 0,
		r.AS == 0 || slices.Index(a.Path, r.AS) >= 0,
	} {
		if !asked {
			return false
		}
	}
	return true
}

func wantFits(t *testing.T, r api.Rule, to api.Prefix, a api.Attr, want bool) {
	t.Helper()
	if got := rule.Fits(r, to, a); got != want {
		t.Errorf("Fits(%v, %v, %v) = %v", r, to, a, got)
	}
}

func TestFitsWithin(t *testing.T) {
	for _, c := range []struct {
		within, to string
		want       bool
	}{
		{"10.0.0.0/8", "10.0.0.0/8", true},
		{"10.0.0.0/8", "10.0.0.0/9", true},
		{"10.0.0.0/8", "10.128.0.0/9", true},
		{"10.0.0.0/8", "10.255.255.255/32", true},
		{"10.0.0.0/8", "10.0.0.0/7", false},
		{"10.0.0.0/8", "0.0.0.0/0", false},
		{"10.0.0.0/8", "11.0.0.0/8", false},
		{"10.0.0.0/8", "9.0.0.0/8", false},
		{"10.0.0.0/8", "9.255.255.255/32", false},
		{"10.0.0.0/8", "11.0.0.0/32", false},
		{"0.0.0.0/0", "0.0.0.0/0", true},
		{"0.0.0.0/0", "255.255.255.255/32", true},
		{"0.0.0.0/32", "0.0.0.0/32", true},
		{"0.0.0.0/32", "0.0.0.1/32", false},
		{"0.0.0.0/32", "0.0.0.0/31", false},
		{"255.255.255.255/32", "255.255.255.255/32", true},
		{"128.0.0.0/1", "127.255.255.255/32", false},
	} {
		wantFits(t, with(func(r *api.Rule) { r.Within = pre(c.within) }), pre(c.to), api.Attr{}, c.want)
	}
}

// A Len of each, asked from each to each.
func TestFitsLoAndHi(t *testing.T) {
	for lo := range 33 {
		for hi := lo; hi < 33; hi++ {
			r := with(func(r *api.Rule) { r.Lo, r.Hi = lo, hi })
			for n := range 33 {
				wantFits(t, r, api.Prefix{Len: n}, api.Attr{}, lo <= n && n <= hi)
			}
		}
	}
}

func TestFitsTagAndAS(t *testing.T) {
	// The tags are none of the path's systems, and these none of the tags.
	a := api.Attr{Path: []int{5, 900, 5, 1000}, Tags: []int{1, 70, 9999}}
	for n := range 10001 {
		wantFits(t, with(func(r *api.Rule) { r.Tag = n }), api.Prefix{}, a, n == 0 || n == 1 || n == 70 || n == 9999)
		wantFits(t, with(func(r *api.Rule) { r.AS = n }), api.Prefix{}, a, n == 0 || n == 5 || n == 900 || n == 1000)
		wantFits(t, with(func(r *api.Rule) { r.Tag = n }), api.Prefix{}, api.Attr{}, n == 0)
		wantFits(t, with(func(r *api.Rule) { r.AS = n }), api.Prefix{}, api.Attr{}, n == 0)
	}
}

// Of all that is asked, one thing alone is not so.
func TestFitsAllButOne(t *testing.T) {
	r := api.Rule{Within: pre("10.0.0.0/8"), Lo: 12, Hi: 20, Tag: 70, AS: 5, Deny: true, Pref: 1, Med: 2, Add: 3, Lead: 4}
	a := api.Attr{Path: []int{4, 5}, Pref: 100, Med: 3, Origin: 1, Tags: []int{70, 71}}
	wantFits(t, r, pre("10.1.0.0/16"), a, true)
	for _, s := range []string{"10.16.0.0/12", "10.1.16.0/20"} {
		wantFits(t, r, pre(s), a, true)
	}
	for _, s := range []string{"11.1.0.0/16", "9.1.0.0/16", "10.0.0.0/11", "10.1.16.0/21", "10.0.0.0/8", "10.1.1.1/32"} {
		wantFits(t, r, pre(s), a, false)
	}
	for _, change := range []func(r *api.Rule){
		func(r *api.Rule) { r.Within = pre("10.0.0.0/17") },
		func(r *api.Rule) { r.Within = pre("10.2.0.0/16") },
		func(r *api.Rule) { r.Lo = 17 },
		func(r *api.Rule) { r.Hi = 15 },
		func(r *api.Rule) { r.Tag = 5 },
		func(r *api.Rule) { r.Tag = 72 },
		func(r *api.Rule) { r.AS = 70 },
		func(r *api.Rule) { r.AS = 6 },
	} {
		x := r
		change(&x)
		wantFits(t, x, pre("10.1.0.0/16"), a, false)
	}
	for _, l := range [][]int{nil, {}, {4}, {6, 7}} {
		wantFits(t, r, pre("10.1.0.0/16"), api.Attr{Path: l, Tags: a.Tags}, false)
		wantFits(t, r, pre("10.1.0.0/16"), api.Attr{Path: a.Path, Tags: l}, false)
	}
}

// What a rule changes, and whether it denies, does not count.
func TestFitsAsksNothingElse(t *testing.T) {
	for _, deny := range []bool{false, true} {
		for _, n := range []int{-1, 0, 1, 1000} {
			r := api.Rule{Hi: 32, Deny: deny, Pref: n, Med: n, Add: max(n, 0), Lead: max(n, 0) % 13}
			wantFits(t, r, pre("10.1.0.0/16"), api.Attr{Pref: 1000 - max(n, 0), Med: 7, Origin: 2}, true)
			r.Tag = 7
			wantFits(t, r, pre("10.1.0.0/16"), api.Attr{Pref: 7, Med: 7, Origin: 2}, false)
		}
	}
}

// fitsRules, fitsPrefixes, fitsAttrs: few enough that each can be asked of each.
func fitsRules() []api.Rule {
	var l []api.Rule
	for _, within := range []string{"0.0.0.0/0", "10.0.0.0/8", "10.0.0.0/9", "10.128.0.0/9", "11.0.0.0/8", "10.0.0.0/32"} {
		for _, span := range [][2]int{{0, 32}, {0, 0}, {0, 8}, {8, 8}, {8, 9}, {9, 31}, {9, 32}, {32, 32}} {
			for _, tag := range []int{0, 1, 2} {
				for _, as := range []int{0, 1, 2} {
					l = append(l, api.Rule{Within: pre(within), Lo: span[0], Hi: span[1], Tag: tag, AS: as, Pref: -1, Med: -1})
				}
			}
		}
	}
	return l
}

func fitsPrefixes() []api.Prefix {
	var l []api.Prefix
	for _, s := range []string{"0.0.0.0/0", "10.0.0.0/7", "10.0.0.0/8", "10.0.0.0/9", "10.128.0.0/9", "11.0.0.0/8", "10.0.0.0/31", "10.0.0.0/32", "10.0.0.1/32", "11.0.0.0/32"} {
		l = append(l, pre(s))
	}
	return l
}

func fitsAttrs() []api.Attr {
	var l []api.Attr
	for _, path := range [][]int{nil, {1}, {2, 1}, {12, 3}} {
		for _, tags := range [][]int{nil, {2}, {1, 2}, {3, 12, 21}} {
			l = append(l, api.Attr{Path: path, Pref: 100, Tags: tags})
		}
	}
	return l
}

func TestFitsAgainstModel(t *testing.T) {
	fit := 0
	for _, r := range fitsRules() {
		for _, to := range fitsPrefixes() {
			for _, a := range fitsAttrs() {
				want := fitsModel(r, to, a)
				wantFits(t, r, to, a, want)
				if want {
					fit++
				}
			}
		}
	}
	if fit < 1000 {
		t.Error("too few fit:", fit)
	}
}

// A prefix that is none has no addresses, and none is within it.
func TestFitsNoPrefix(t *testing.T) {
	for _, c := range notPrefixes {
		wantFits(t, open(), c.p, api.Attr{}, false)
		wantFits(t, with(func(r *api.Rule) { r.Within = c.p }), c.p, api.Attr{}, false)
		for _, to := range fitsPrefixes() {
			wantFits(t, with(func(r *api.Rule) { r.Within = c.p }), to, api.Attr{}, false)
		}
		// Also where the Len is asked for.
		wantFits(t, with(func(r *api.Rule) { r.Lo, r.Hi = math.MinInt, math.MaxInt }), c.p, api.Attr{}, false)
	}
}
