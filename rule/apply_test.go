package rule_test

import (
	"fmt"
	"math/rand"
	"slices"
	"testing"

	"herepath/api"
	"herepath/rule"
)

// answer that is wanted of Apply.
type answer struct {
	a    api.Attr
	is   bool
	want fault
}

func fails(err error) answer { return answer{want: bare(err)} }

var denied = answer{want: right}

func makes(a api.Attr) answer { return answer{a, true, right} }

// same as another one, asked without the package attr.
func same(a, b api.Attr) bool {
	return a.Pref == b.Pref && a.Med == b.Med && a.Origin == b.Origin && slices.Equal(a.Path, b.Path) && slices.Equal(a.Tags, b.Tags)
}

func wantApply(t *testing.T, l []api.Rule, as int, to api.Prefix, a api.Attr, want answer) {
	t.Helper()
	what := fmt.Sprintf("Apply %.500s as %d of %v, %v", fmt.Sprint(l), as, to, a)
	got, is, err := rule.Apply(l, as, to, a)
	want.want.check(t, what, err)
	if !same(got, want.a) || is != want.is {
		t.Errorf("%s: %v, %v, want %v, %v", what, got, is, want.a, want.is)
	}
}

// rising: so many numbers that rise from one on.
func rising(from, count int) []int {
	l := make([]int, count)
	for i := range l {
		l[i] = from + i
	}
	return l
}

var (
	someTo   = pre("10.1.0.0/16")
	someTold = api.Attr{Path: []int{3, 4}, Pref: 100, Med: 9, Origin: 2, Tags: []int{5, 8}}
)

// told, with a change.
func told(change func(a *api.Attr)) api.Attr {
	a := someTold
	change(&a)
	return a
}

func TestApplyNoRules(t *testing.T) {
	full := api.Attr{Path: rising(1, 12), Pref: 1000, Med: 1000, Origin: 2, Tags: rising(1, 8)}
	for _, l := range [][]api.Rule{nil, {}} {
		// No system is asked for: it may be none.
		for _, as := range numbersAround {
			for _, a := range []api.Attr{{}, someTold, full} {
				wantApply(t, l, as, someTo, a, makes(a))
				wantApply(t, l, as, api.Prefix{}, a, makes(a))
			}
		}
	}
}

func TestApplyPrefAndMed(t *testing.T) {
	for n := -1; n <= 1000; n++ {
		pref, med := with(func(r *api.Rule) { r.Pref = n }), with(func(r *api.Rule) { r.Med = n })
		want := makes(someTold)
		if n >= 0 {
			want.a.Pref = n
		}
		wantApply(t, []api.Rule{pref}, 7, someTo, someTold, want)
		want = makes(someTold)
		if n >= 0 {
			want.a.Med = n
		}
		wantApply(t, []api.Rule{med}, 7, someTo, someTold, want)
	}
}

func TestApplyAdd(t *testing.T) {
	for _, c := range []struct {
		tags []int
		add  int
		want []int
	}{
		{nil, 0, nil}, {nil, 1, []int{1}}, {nil, 9999, []int{9999}},
		{[]int{5, 8}, 0, []int{5, 8}}, {[]int{5, 8}, 1, []int{1, 5, 8}}, {[]int{5, 8}, 6, []int{5, 6, 8}}, {[]int{5, 8}, 9999, []int{5, 8, 9999}},
		{[]int{5, 8}, 5, []int{5, 8}}, {[]int{5, 8}, 8, []int{5, 8}},
		{rising(2, 7), 1, rising(1, 8)}, {rising(1, 7), 8, rising(1, 8)},
		// No place is left, and none is needed.
		{rising(1, 8), 0, rising(1, 8)}, {rising(1, 8), 1, rising(1, 8)}, {rising(1, 8), 8, rising(1, 8)},
	} {
		a := told(func(a *api.Attr) { a.Tags = c.tags })
		want := told(func(a *api.Attr) { a.Tags = c.want })
		wantApply(t, []api.Rule{with(func(r *api.Rule) { r.Add = c.add })}, 7, someTo, a, makes(want))
	}
	for _, add := range []int{1, 11, 45, 81, 9999} {
		a := told(func(a *api.Attr) { a.Tags = []int{10, 20, 30, 40, 50, 60, 70, 80} })
		wantApply(t, []api.Rule{with(func(r *api.Rule) { r.Add = add })}, 7, someTo, a, fails(api.ErrFull))
	}
}

// Each length of a path, led so many times more.
func TestApplyLead(t *testing.T) {
	for length := range 13 {
		for lead := range 13 {
			for _, as := range []int{1, 7, 1000} {
				a := told(func(a *api.Attr) { a.Path = rising(1, length) })
				want := makes(told(func(a *api.Attr) { a.Path = append(slices.Repeat([]int{as}, lead), rising(1, length)...) }))
				if length+lead > 12 {
					want = fails(api.ErrFull)
				}
				wantApply(t, []api.Rule{with(func(r *api.Rule) { r.Lead = lead })}, as, someTo, a, want)
			}
		}
	}
}

// The own system is asked for where a rule makes something, even where it leads no times more; and nowhere else.
func TestApplySystem(t *testing.T) {
	other := with(func(r *api.Rule) { r.Within = pre("11.0.0.0/8") })
	deny := with(func(r *api.Rule) { r.Deny = true })
	for _, as := range numbersAround {
		for _, lead := range []int{0, 1, 12} {
			lead := with(func(r *api.Rule) { r.Lead = lead })
			want := makes(told(func(a *api.Attr) { a.Path = slices.Repeat([]int{as}, lead.Lead) }))
			if as < 1 || as > 1000 {
				want = fails(api.ErrBound)
			}
			a := told(func(a *api.Attr) { a.Path = nil })
			wantApply(t, []api.Rule{lead}, as, someTo, a, want)
			wantApply(t, []api.Rule{other, lead, deny}, as, someTo, a, want)
			wantApply(t, []api.Rule{deny, lead}, as, someTo, a, denied)
			wantApply(t, []api.Rule{other}, as, someTo, a, denied)
			if want.is {
				continue
			}
			// A system that is none is told ahead of a path that is too long, and behind tags that are too many.
			wantApply(t, []api.Rule{lead}, as, someTo, told(func(a *api.Attr) { a.Path = rising(1, 12) }), fails(api.ErrBound))
			lead.Add = 9
			wantApply(t, []api.Rule{lead}, as, someTo, told(func(a *api.Attr) { a.Tags = rising(1, 8) }), fails(api.ErrFull))
		}
	}
}

// All that a rule makes, made at once; what denies makes nothing of it.
func TestApplyAll(t *testing.T) {
	r := api.Rule{Within: pre("10.0.0.0/8"), Lo: 16, Hi: 16, Tag: 5, AS: 4, Pref: 0, Med: 1000, Add: 6, Lead: 2}
	want := api.Attr{Path: []int{7, 7, 3, 4}, Pref: 0, Med: 1000, Origin: 2, Tags: []int{5, 6, 8}}
	wantApply(t, []api.Rule{r}, 7, someTo, someTold, makes(want))
	r.Deny = true
	wantApply(t, []api.Rule{r}, 7, someTo, someTold, denied)
	// Where it can't be made, too.
	r.Lead = 12
	wantApply(t, []api.Rule{r}, 0, someTo, someTold, denied)
	r.Deny = false
	wantApply(t, []api.Rule{r}, 7, someTo, someTold, fails(api.ErrFull))
	// What was asked of is what came, not what is made of it.
	r.Lead, r.AS = 2, 7
	wantApply(t, []api.Rule{r}, 7, someTo, someTold, denied)
	r.AS, r.Tag = 4, 6
	wantApply(t, []api.Rule{r}, 7, someTo, someTold, denied)
}

func prefers(n int, change func(r *api.Rule)) api.Rule {
	r := with(change)
	r.Pref = n
	return r
}

func TestApplyTheFirstThatFits(t *testing.T) {
	all := func(r *api.Rule) {}
	other := func(r *api.Rule) { r.Within = pre("11.0.0.0/8") }
	deny := func(r *api.Rule) { r.Deny = true }
	denyOther := func(r *api.Rule) { r.Within, r.Deny = pre("11.0.0.0/8"), true }
	for _, c := range []struct {
		l    []func(r *api.Rule)
		want int
	}{
		{[]func(r *api.Rule){all, all}, 0},
		{[]func(r *api.Rule){other, all, all}, 1},
		{[]func(r *api.Rule){denyOther, other, all, deny}, 2},
		{[]func(r *api.Rule){all, deny}, 0},
		{[]func(r *api.Rule){deny, all}, -1},
		{[]func(r *api.Rule){other, deny, all}, -1},
		{[]func(r *api.Rule){other}, -1},
		{[]func(r *api.Rule){denyOther}, -1},
		{[]func(r *api.Rule){other, other, denyOther}, -1},
		{[]func(r *api.Rule){other, other, other, other, other, other, other, other, other, all}, 9},
		{[]func(r *api.Rule){other, other, other, other, other, other, other, other, other, other}, -1},
	} {
		var l []api.Rule
		for i, change := range c.l {
			l = append(l, prefers(500+i, change))
		}
		want := denied
		if c.want >= 0 {
			want = makes(told(func(a *api.Attr) { a.Pref = 500 + c.want }))
		}
		wantApply(t, l, 7, someTo, someTold, want)
	}
}

// What a rule that fits can't make is not made by one behind it instead.
func TestApplyAnErrorIsTheLastWord(t *testing.T) {
	for _, c := range []struct {
		r    api.Rule
		a    api.Attr
		want error
	}{
		{with(func(r *api.Rule) { r.Lead = 11 }), someTold, api.ErrFull},
		{with(func(r *api.Rule) { r.Add = 9 }), told(func(a *api.Attr) { a.Tags = rising(1, 8) }), api.ErrFull},
	} {
		wantApply(t, []api.Rule{c.r, open()}, 7, someTo, c.a, fails(c.want))
		wantApply(t, []api.Rule{open(), c.r}, 7, someTo, c.a, makes(c.a))
	}
}

// notAttrs: each error of what is told; those of a place have none here.
var notAttrs = []struct {
	a   api.Attr
	err error
}{
	{told(func(a *api.Attr) { a.Path = rising(1, 13) }), api.ErrFull},
	{told(func(a *api.Attr) { a.Tags = rising(1, 9) }), api.ErrFull},
	{told(func(a *api.Attr) { a.Path = []int{3, 0, 5} }), api.ErrBound},
	{told(func(a *api.Attr) { a.Pref = -1 }), api.ErrBound},
	{told(func(a *api.Attr) { a.Med = 1001 }), api.ErrBound},
	{told(func(a *api.Attr) { a.Origin = 3 }), api.ErrBound},
	{told(func(a *api.Attr) { a.Tags = []int{5, 10000} }), api.ErrBound},
	{told(func(a *api.Attr) { a.Tags = []int{8, 5} }), api.ErrOrder},
}

// The errors in the order of the chapter's sentence, each with all behind it wrong, too.
func TestApplyTellsTheFirstError(t *testing.T) {
	wrong := with(func(r *api.Rule) { r.Lead = 13 })
	deny := with(func(r *api.Rule) { r.Deny = true })
	lists := [][]api.Rule{nil, {open()}, {deny}, {with(func(r *api.Rule) { r.Within = pre("11.0.0.0/8") })}, {with(func(r *api.Rule) { r.Pref, r.Med = 1, 1 })}}
	for _, a := range notAttrs {
		for _, as := range []int{7, 0, -1, 1001} {
			for _, l := range lists {
				wantApply(t, l, as, someTo, a.a, fails(a.err))
				for _, to := range notPrefixes {
					wantApply(t, l, as, to.p, a.a, fails(to.err))
					wantApply(t, l, as, to.p, someTold, fails(to.err))
				}
			}
			for _, to := range []api.Prefix{someTo, {Len: 33}, {Addr: 1}} {
				wantApply(t, slices.Repeat([]api.Rule{wrong}, 11), as, to, a.a, fails(api.ErrFull))
				wantApply(t, []api.Rule{open(), wrong}, as, to, a.a, answer{want: fault{1, api.ErrBound}})
				wantApply(t, []api.Rule{wrong, open()}, as, to, someTold, answer{want: fault{0, api.ErrBound}})
			}
		}
	}
}

// Rules that are wrong are told even behind one that fits, and with their places.
func TestApplyChecksAllRules(t *testing.T) {
	for _, f := range fields() {
		for at := range 10 {
			l := slices.Repeat([]api.Rule{open()}, 10)
			*f.of(&l[at]) = f.to + 1
			wantApply(t, l, 7, someTo, someTold, answer{want: fault{at, api.ErrBound}})
			*f.of(&l[at]) = f.from - 1
			wantApply(t, l, 7, someTo, someTold, answer{want: fault{at, api.ErrBound}})
		}
	}
	for _, c := range notPrefixes {
		wantApply(t, []api.Rule{open(), {Within: c.p}}, 7, someTo, someTold, answer{want: fault{1, c.err}})
	}
}

// applyModel: of right rules, prefixes and what is told.
func applyModel(l []api.Rule, as int, to api.Prefix, a api.Attr) answer {
	for _, r := range l {
		if !fitsModel(r, to, a) {
			continue
		}
		if r.Deny {
			return denied
		}
		made := api.Attr{Pref: a.Pref, Med: a.Med, Origin: a.Origin, Tags: slices.Clone(a.Tags)}
		if r.Add > 0 && !slices.Contains(a.Tags, r.Add) {
			made.Tags = append(made.Tags, r.Add)
			slices.Sort(made.Tags)
		}
		for range r.Lead {
			made.Path = append(made.Path, as)
		}
		made.Path = append(made.Path, a.Path...)
		if r.Pref >= 0 {
			made.Pref = r.Pref
		}
		if r.Med >= 0 {
			made.Med = r.Med
		}
		if len(made.Tags) > 8 {
			return fails(api.ErrFull)
		}
		if as < 1 || as > 1000 {
			return fails(api.ErrBound)
		}
		if len(made.Path) > 12 {
			return fails(api.ErrFull)
		}
		return makes(made)
	}
	if len(l) > 0 {
		return denied
	}
	return makes(a)
}

func oneOf[T any](r *rand.Rand, l []T) T { return l[r.Intn(len(l))] }

var ruleChoices, prefixChoices = fitsRules(), fitsPrefixes()

func someRule(r *rand.Rand) api.Rule {
	x := oneOf(r, ruleChoices)
	if r.Intn(2) == 0 {
		x = open()
	}
	x.Deny = r.Intn(4) == 0
	x.Pref, x.Med = r.Intn(1002)-1, r.Intn(1002)-1
	x.Add, x.Lead = r.Intn(30), r.Intn(7)
	return x
}

func someRules(r *rand.Rand, most int) []api.Rule {
	var l []api.Rule
	for range r.Intn(most + 1) {
		l = append(l, someRule(r))
	}
	return l
}

func someAttr(r *rand.Rand) api.Attr {
	a := api.Attr{Pref: r.Intn(1001), Med: r.Intn(1001), Origin: r.Intn(3)}
	for range r.Intn(10) {
		a.Path = append(a.Path, 1+r.Intn(4))
	}
	for n := 1 + r.Intn(2); n < 30 && len(a.Tags) < 8; n += 1 + r.Intn(9) {
		a.Tags = append(a.Tags, n)
	}
	return a
}

func TestApplyAgainstModel(t *testing.T) {
	r := rand.New(rand.NewSource(1))
	made, not, wrong := 0, 0, 0
	for i := range 20000 {
		l, as, to, a := someRules(r, 10), 1+r.Intn(1000), oneOf(r, prefixChoices), someAttr(r)
		if i%10 == 0 {
			as = oneOf(r, []int{0, -1, 1001})
		}
		want := applyModel(l, as, to, a)
		wantApply(t, l, as, to, a, want)
		switch {
		case want.is:
			made++
		case want.want == right:
			not++
		default:
			wrong++
		}
	}
	if min(made, not, wrong) < 500 {
		t.Error("too few of one kind:", made, not, wrong)
	}
}

// P62: whatever right rules come behind one that fits.
func TestRulesBehindOneThatFitsChangeNothing(t *testing.T) {
	r := rand.New(rand.NewSource(2))
	tried := 0
	for range 20000 {
		l, as, to, a := someRules(r, 10), r.Intn(20), oneOf(r, prefixChoices), someAttr(r)
		at := slices.IndexFunc(l, func(x api.Rule) bool { return fitsModel(x, to, a) })
		if at < 0 {
			continue
		}
		tried++
		want, is, err := rule.Apply(l, as, to, a)
		for _, more := range [][]api.Rule{nil, {open()}, {with(func(r *api.Rule) { r.Deny = true })}, someRules(r, 9-at)} {
			if at+1+len(more) <= 10 {
				wantApply(t, append(slices.Clone(l[:at+1]), more...), as, to, a, answer{want, is, bare(err)})
			}
		}
	}
	if tried < 5000 {
		t.Error("too few had one that fits:", tried)
	}
}
