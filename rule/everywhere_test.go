package rule_test

import (
	"fmt"
	"math/rand"
	"slices"
	"sync"
	"testing"

	"herepath/api"
	"herepath/plain"
	"herepath/rule"
)

// tellAll asks every call of the package, and writes down what it answers.
func tellAll(l []api.Rule, as int, to api.Prefix, a api.Attr) string {
	code, at := plain.Code(rule.Check(l))
	got, is, err := rule.Apply(l, as, to, a)
	codeApply, atApply := plain.Code(err)
	fits := []bool{}
	for _, r := range l {
		fits = append(fits, rule.Fits(r, to, a))
	}
	return fmt.Sprint(code, at, fits, got, is, codeApply, atApply)
}

// strangeRules: each field at each number, alone and all at once.
func strangeRules() []api.Rule {
	l := []api.Rule{{}, open()}
	for _, n := range numbersAround {
		l = append(l, api.Rule{Within: api.Prefix{Addr: n, Len: n}, Lo: n, Hi: n, Tag: n, AS: n, Pref: n, Med: n, Add: n, Lead: n})
		for _, f := range fields() {
			x := open()
			*f.of(&x) = n
			l = append(l, x)
		}
		for _, m := range numbersAround {
			l = append(l, api.Rule{Within: api.Prefix{Addr: n, Len: m}, Hi: 32}, api.Rule{Lo: n, Hi: m})
		}
	}
	return l
}

// P1: a panic fails the test, and so does a call that does not end.
func TestNoCallPanics(t *testing.T) {
	attrs := []api.Attr{{}, someTold, {Path: make([]int, 1<<20)}, {Tags: make([]int, 1<<20)}, {Path: slices.Repeat([]int{7}, 12), Tags: rising(1, 8)}}
	for _, c := range notAttrs {
		attrs = append(attrs, c.a)
	}
	for _, n := range numbersAround {
		attrs = append(attrs, api.Attr{Path: []int{n}, Pref: n, Med: n, Origin: n, Tags: []int{n}}, api.Attr{Path: []int{n, 1, n}}, api.Attr{Tags: []int{1, n, n}})
	}
	tos := append(fitsPrefixes(), someTo)
	for _, c := range notPrefixes {
		tos = append(tos, c.p)
	}
	for i, r := range strangeRules() {
		for k, a := range attrs {
			to, as := tos[(i+k)%len(tos)], numbersAround[(i*7+k)%len(numbersAround)]
			rule.Fits(r, to, a)
			for _, l := range [][]api.Rule{nil, {}, {r}, {r, open()}, slices.Repeat([]api.Rule{r}, 10), slices.Repeat([]api.Rule{r}, 11)} {
				rule.Check(l)
				rule.Apply(l, as, to, a)
			}
		}
	}
	many := make([]api.Rule, 1<<20)
	rule.Check(many)
	rule.Apply(many, 7, someTo, someTold)
}

// Of what is not right, too, Fits asks just what it says.
func TestFitsStrange(t *testing.T) {
	for _, r := range strangeRules() {
		for _, n := range numbersAround {
			for _, a := range []api.Attr{{Path: []int{n}, Tags: []int{n}}, {Path: []int{0, n}, Tags: []int{2, n, 1}}} {
				wantFits(t, r, api.Prefix{}, a, fitsModel(r, api.Prefix{}, a))
				wantFits(t, r, api.Prefix{Addr: n, Len: 32}, a, fitsModel(r, api.Prefix{Addr: n, Len: 32}, a))
			}
		}
	}
}

// behind: the list in memory that goes on, with something else behind its length.
func behind[T any](l []T, more T) []T {
	return append(slices.Clone(l), slices.Repeat([]T{more}, 15)...)[:len(l)]
}

func behindBoth(a api.Attr, more int) api.Attr {
	a.Path, a.Tags = behind(a.Path, more), behind(a.Tags, more)
	return a
}

// fill all the memory of a list.
func fill[T any](l []T, with T) {
	for i := range l[:cap(l)] {
		l[:cap(l)][i] = with
	}
}

func scribble(a api.Attr) {
	fill(a.Path, -9)
	fill(a.Tags, -9)
}

// whole: all the memory of what was handed over.
func whole(l []api.Rule, a api.Attr) string {
	return fmt.Sprint(l[:cap(l)], a.Path[:cap(a.Path)], a.Tags[:cap(a.Tags)], a.Pref, a.Med, a.Origin)
}

// P3, P4: what is handed over is only read, as far as it is long, and not kept; what is answered is new memory.
func TestArgumentsStay(t *testing.T) {
	r := rand.New(rand.NewSource(4))
	for i := range 5000 {
		// Behind its length stand a rule that would fit all, and a tag and a system that rules ask for.
		l, as, to := behind(someRules(r, 3), open()), 1+r.Intn(1000), oneOf(r, prefixChoices)
		a := behindBoth(someAttr(r), 1+i%2)
		if i%5 == 0 && len(l) > 0 {
			l[0].Lead = 13
		}
		before, told := whole(l, a), tellAll(slices.Clone(l), as, to, api.Attr{Path: slices.Clone(a.Path), Pref: a.Pref, Med: a.Med, Origin: a.Origin, Tags: slices.Clone(a.Tags)})
		if got := tellAll(l, as, to, a); got != told || whole(l, a) != before {
			t.Fatalf("%s was %s, with %s, then %s", whole(l, a), before, told, got)
		}
		one, _, errOne := rule.Apply(l, as, to, a)
		other, _, _ := rule.Apply(l, as, to, a)
		kept := fmt.Sprint(other)
		scribble(one)
		if whole(l, a) != before || tellAll(l, as, to, a) != told || fmt.Sprint(other) != kept {
			t.Fatalf("what is written into an answer (%v) shows: %s, then %s", errOne, before, whole(l, a))
		}
		// What was answered does not change with what was handed over.
		code, at := plain.Code(errOne)
		fill(l, api.Rule{Lead: -1})
		scribble(a)
		if codeThen, atThen := plain.Code(errOne); fmt.Sprint(other) != kept || code != codeThen || at != atThen {
			t.Fatalf("a later change shows: %s, then %v", kept, other)
		}
	}
}

// answersOf all ways to make one, of a path and tags in the same memory.
func answersOf() []api.Attr {
	l := behind(rising(1, 4), -7)
	a := api.Attr{Path: l, Tags: l}
	var out []api.Attr
	for _, rules := range [][]api.Rule{nil, {open()}, {with(func(r *api.Rule) { r.Add = 2 })}, {with(func(r *api.Rule) { r.Pref = 1 })}} {
		got, _, _ := rule.Apply(rules, 7, someTo, a)
		out = append(out, got)
	}
	return out
}

// The two lists of one answer share no memory.
func TestListsOfAnAnswerAreApart(t *testing.T) {
	for i := range answersOf() {
		x, y := answersOf()[i], answersOf()[i]
		fill(x.Path, -9)
		fill(y.Tags, -9)
		if fmt.Sprint(x.Tags, y.Path) != "[1 2 3 4] [1 2 3 4]" {
			t.Error("what is written into one list of an answer shows in the other:", i, x, y)
		}
	}
}

// P2: neither what was asked ahead, nor who asks at the same time, shows in an answer; go test -race would tell of memory that is shared.
func TestAnswersHangOnArgumentsAlone(t *testing.T) {
	r := rand.New(rand.NewSource(6))
	asks := []func() string{}
	for i := range 400 {
		l, as, to, a := someRules(r, 11), r.Intn(30), oneOf(r, prefixChoices), someAttr(r)
		if i%7 == 0 && len(l) > 1 {
			l[1].Within.Len = 33
		}
		if i%9 == 0 {
			slices.Reverse(a.Tags)
		}
		asks = append(asks, func() string { return tellAll(l, as, to, a) })
	}
	first := make([]string, len(asks))
	for i, ask := range asks {
		first[i] = ask()
	}
	var wg sync.WaitGroup
	for worker := range 8 {
		wg.Go(func() {
			for i := range asks {
				k := len(asks) - 1 - (i+worker*31)%len(asks)
				if got := asks[k](); got != first[k] {
					t.Errorf("%d: %q, then %q", k, first[k], got)
				}
			}
		})
	}
	wg.Wait()
}

// A fault is new memory, too.
func TestFaultsAreNew(t *testing.T) {
	l := []api.Rule{open(), {Lo: 1}}
	asked := []func() error{
		func() error { return rule.Check(l) },
		func() error { _, _, err := rule.Apply(l, 7, someTo, someTold); return err },
	}
	for _, ask := range asked {
		f, ok := ask().(*api.Fault)
		if !ok {
			t.Fatal("no fault")
		}
		*f = api.Fault{At: 9, Err: api.ErrLoop}
		fault{1, api.ErrBound}.check(t, "a fault asked again", ask())
	}
}

func TestNilAndEmptyAreOneThing(t *testing.T) {
	lists := [][]int{nil, {}, behind(nil, 7)}
	for _, rules := range [][]api.Rule{nil, {}, behind(nil, api.Rule{Lead: -1})} {
		wantCheck(t, rules, right)
		for _, path := range lists {
			for _, tags := range lists {
				a := api.Attr{Path: path, Pref: 3, Tags: tags}
				wantApply(t, rules, 7, someTo, a, makes(a))
				wantApply(t, []api.Rule{open()}, 7, someTo, a, makes(a))
				wantApply(t, []api.Rule{with(func(r *api.Rule) { r.Add, r.Lead = 6, 1 })}, 7, someTo, a, makes(api.Attr{Path: []int{7}, Pref: 3, Tags: []int{6}}))
				wantFits(t, open(), someTo, a, true)
				wantFits(t, with(func(r *api.Rule) { r.Tag = 7 }), someTo, a, false)
				wantFits(t, with(func(r *api.Rule) { r.AS = 7 }), someTo, a, false)
			}
		}
	}
}
