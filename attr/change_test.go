package attr_test

import (
	"fmt"
	"math"
	"math/rand"
	"slices"
	"testing"

	"herepath/api"
	"herepath/attr"
)

func TestOwn(t *testing.T) {
	if a := attr.Own(); !same(a, api.Attr{Pref: 100}) || attr.Check(a) != nil {
		t.Errorf("Own() = %v", a)
	}
}

func lead(t *testing.T, a api.Attr, as, n int, want error) api.Attr {
	t.Helper()
	got, err := attr.Lead(a, as, n)
	what := fmt.Sprint("Lead ", a, " ", as, " ", n)
	checkBare(t, what, err, want)
	if want != nil {
		checkNothing(t, what, got)
	}
	return got
}

func tag(t *testing.T, a api.Attr, n int, want error) api.Attr {
	t.Helper()
	got, err := attr.Tag(a, n)
	what := fmt.Sprint("Tag ", a, " ", n)
	checkBare(t, what, err, want)
	if want != nil {
		checkNothing(t, what, got)
	}
	return got
}

func TestLead(t *testing.T) {
	for _, c := range []struct {
		path  []int
		as, n int
		want  string
	}{
		{nil, 7, 0, "[]"},
		{nil, 7, 1, "[7]"},
		{nil, 7, 12, "[7 7 7 7 7 7 7 7 7 7 7 7]"},
		{[]int{1, 2}, 7, 0, "[1 2]"},
		{[]int{1, 2}, 7, 1, "[7 1 2]"},
		{[]int{1, 2}, 7, 3, "[7 7 7 1 2]"},
		{[]int{1, 2}, 1, 1, "[1 1 2]"},
		{[]int{1, 2}, 2, 2, "[2 2 1 2]"},
		{[]int{1, 2}, 1000, 1, "[1000 1 2]"},
		{[]int{1, 2}, 1, 10, "[1 1 1 1 1 1 1 1 1 1 1 2]"},
		{rising(1, 12), 7, 0, "[1 2 3 4 5 6 7 8 9 10 11 12]"},
		{rising(1, 11), 7, 1, "[7 1 2 3 4 5 6 7 8 9 10 11]"},
	} {
		got := lead(t, api.Attr{Path: c.path}, c.as, c.n, nil)
		if fmt.Sprint(got.Path) != c.want || attr.Check(got) != nil {
			t.Errorf("%v led by %d %d times: %v, want %s", c.path, c.as, c.n, got.Path, c.want)
		}
	}
}

// Each length of a path, led by each number of systems, and what is told beside it.
func TestLeadEachLength(t *testing.T) {
	for length := range 13 {
		for n := -2; n < 16; n++ {
			a := api.Attr{Path: rising(1, length), Pref: 5, Med: 6, Origin: 2, Tags: []int{8, 9}}
			var want error
			if n < 0 || n > 12 {
				want = api.ErrBound
			} else if length+n > 12 {
				want = api.ErrFull
			}
			got := lead(t, a, 77, n, want)
			if want != nil {
				continue
			}
			a.Path = append(times(77, n), a.Path...)
			if !same(got, a) {
				t.Errorf("a path of %d led %d times: %v", length, n, got)
			}
		}
	}
}

func TestLeadWrong(t *testing.T) {
	for _, as := range notSystems {
		// Also where it is led 0 times, or where it would be too long.
		for _, n := range []int{0, 1, 12, 13, -1} {
			lead(t, api.Attr{}, as, n, api.ErrBound)
			lead(t, api.Attr{Path: times(7, 12)}, as, n, api.ErrBound)
		}
	}
	for _, n := range []int{-1, -2, 13, 14, math.MinInt, math.MaxInt, math.MaxInt - 5, 1 << 32} {
		lead(t, api.Attr{}, 7, n, api.ErrBound)
		lead(t, api.Attr{Path: times(7, 12)}, 7, n, api.ErrBound)
	}
	for n := 1; n <= 12; n++ {
		lead(t, api.Attr{Path: times(7, 12)}, 7, n, api.ErrFull)
		lead(t, api.Attr{Path: times(7, 13-n)}, 7, n, api.ErrFull)
	}
	for _, c := range wrongAttrs() { // Check's come ahead
		lead(t, c.a, 7, 0, c.want.err)
		lead(t, c.a, 7, 12, c.want.err)
		lead(t, c.a, 0, -1, c.want.err)
	}
}

func TestTag(t *testing.T) {
	for _, c := range []struct {
		tags []int
		tag  int
		want string
	}{
		{nil, 1, "[1]"},
		{nil, 9999, "[9999]"},
		{[]int{5, 9}, 1, "[1 5 9]"},
		{[]int{5, 9}, 4, "[4 5 9]"},
		{[]int{5, 9}, 5, "[5 9]"},
		{[]int{5, 9}, 6, "[5 6 9]"},
		{[]int{5, 9}, 9, "[5 9]"},
		{[]int{5, 9}, 10, "[5 9 10]"},
		{[]int{5, 9}, 9999, "[5 9 9999]"},
		{[]int{9999}, 9999, "[9999]"},
		{rising(2, 7), 1, "[1 2 3 4 5 6 7 8]"},
		{rising(2, 7), 9, "[2 3 4 5 6 7 8 9]"},
		{rising(2, 7), 5, "[2 3 4 5 6 7 8]"},
		// There is no room for one more, but for those that are there.
		{rising(1, 8), 1, "[1 2 3 4 5 6 7 8]"},
		{rising(1, 8), 5, "[1 2 3 4 5 6 7 8]"},
		{rising(1, 8), 8, "[1 2 3 4 5 6 7 8]"},
	} {
		a := api.Attr{Path: []int{3, 2}, Pref: 5, Med: 6, Origin: 1, Tags: c.tags}
		got := tag(t, a, c.tag, nil)
		if fmt.Sprint(got.Tags) != c.want || attr.Check(got) != nil {
			t.Errorf("%v with %d: %v, want %s", c.tags, c.tag, got.Tags, c.want)
		}
		got.Tags = c.tags
		if !same(got, a) {
			t.Errorf("Tag(%v) = %v beside its tags", a, got)
		}
	}
}

func TestTagWrong(t *testing.T) {
	for _, n := range notTags {
		tag(t, api.Attr{}, n, api.ErrBound)
		tag(t, api.Attr{Tags: rising(1, 8)}, n, api.ErrBound)
		tag(t, api.Attr{Tags: rising(9992, 8)}, n, api.ErrBound)
	}
	for _, n := range []int{1, 9, 11, 25, 81, 9999} {
		tag(t, api.Attr{Tags: []int{10, 20, 30, 40, 50, 60, 70, 80}}, n, api.ErrFull)
	}
	for _, c := range wrongAttrs() { // Check's come ahead
		tag(t, c.a, 7, c.want.err)
		tag(t, c.a, 0, c.want.err)
	}
}

// Tags in any order come to the same.
func TestTagsRise(t *testing.T) {
	r := rand.New(rand.NewSource(3))
	for range 2000 {
		var a api.Attr
		var model []int
		for range 12 {
			n := 1 + r.Intn(15)
			if i := slices.Index(model, n); i < 0 && len(model) == 8 {
				tag(t, a, n, api.ErrFull)
				continue
			} else if i < 0 {
				model = append(model, n)
				slices.Sort(model)
			}
			a = tag(t, a, n, nil)
			if !slices.Equal(a.Tags, model) {
				t.Fatalf("%v, want %v", a.Tags, model)
			}
		}
	}
}

func TestThrough(t *testing.T) {
	for _, c := range []struct {
		path []int
		as   int
		want bool
	}{
		{nil, 0, false}, {nil, 1, false}, {[]int{}, 1, false},
		{[]int{1}, 1, true}, {[]int{1}, 2, false}, {[]int{1}, 0, false}, {[]int{1}, -1, false},
		{[]int{1, 2, 3}, 1, true}, {[]int{1, 2, 3}, 2, true}, {[]int{1, 2, 3}, 3, true}, {[]int{1, 2, 3}, 4, false}, {[]int{1, 2, 3}, 12, false},
		{[]int{7, 7, 5}, 7, true}, {[]int{12}, 1, false}, {[]int{1000}, 1000, true}, {[]int{1000}, 1001, false},
		{rising(1, 12), 12, true}, {rising(1, 12), 13, false},
	} {
		// What else is told does not count.
		a := api.Attr{Path: c.path, Pref: 4, Med: 4, Origin: 2, Tags: []int{2, 4, 13}}
		if got := attr.Through(a, c.as); got != c.want {
			t.Errorf("Through(%v, %d) = %v", c.path, c.as, got)
		}
	}
}

func TestSame(t *testing.T) {
	l := []api.Attr{
		{}, {Pref: 1}, {Med: 1}, {Origin: 1}, {Path: []int{1}}, {Tags: []int{1}}, {Pref: 1, Med: 1}, {Path: []int{1}, Tags: []int{1}},
		{Path: []int{2}}, {Path: []int{1, 2}}, {Path: []int{2, 1}}, {Path: []int{1, 1}}, {Path: []int{1, 2, 3}}, {Path: []int{12}},
		{Tags: []int{2}}, {Tags: []int{1, 2}}, {Tags: []int{1, 3}}, {Tags: []int{1, 2, 3}}, {Tags: []int{12}}, {Path: []int{1, 2}, Tags: []int{1, 2}},
		{Path: []int{1, 2}, Pref: 100, Med: 3, Origin: 2, Tags: []int{5, 6}}, {Path: []int{1, 2}, Pref: 100, Med: 3, Origin: 1, Tags: []int{5, 6}},
		{Path: []int{1, 2}, Pref: 100, Med: 2, Origin: 2, Tags: []int{5, 6}}, {Path: []int{1, 2}, Pref: 99, Med: 3, Origin: 2, Tags: []int{5, 6}},
	}
	for i, a := range l {
		for k, b := range l {
			b.Path, b.Tags = slices.Clone(b.Path), slices.Clone(b.Tags)
			if got := attr.Same(a, b); got != (i == k) {
				t.Errorf("Same(%v, %v) = %v", a, b, got)
			}
		}
	}
}

// A copy stands alone, and so do its two lists; what is not right is copied as it stands.
func TestCopy(t *testing.T) {
	l := []api.Attr{{}, {Path: []int{1}, Tags: []int{2}}, {Path: rising(1, 12), Pref: 1000, Med: 5, Origin: 2, Tags: rising(7, 8)}, {Path: times(-1, 13), Pref: -7, Med: 1001, Origin: 9, Tags: []int{5, 4, 0}}}
	for _, a := range l {
		a.Path, a.Tags = behind(a.Path), behind(a.Tags)
		want := whole(a)
		left, right, stays := attr.Copy(a), attr.Copy(a), attr.Copy(a)
		for _, c := range []api.Attr{left, right, stays} {
			if !same(c, a) {
				t.Errorf("Copy(%v) = %v", a, c)
			}
		}
		scribble(api.Attr{Path: left.Path})
		scribble(api.Attr{Tags: right.Tags})
		if fmt.Sprint(left.Tags, right.Path) != fmt.Sprint(a.Tags, a.Path) || whole(a) != want {
			t.Errorf("what is written into a copy of %v shows", a)
		}
		kept := fmt.Sprint(stays)
		scribble(a)
		if fmt.Sprint(stays) != kept {
			t.Errorf("a later change of %v shows in its copy", a)
		}
	}
	shared := rising(1, 4)
	c := attr.Copy(api.Attr{Path: shared, Tags: shared})
	scribble(api.Attr{Path: c.Path})
	if fmt.Sprint(c.Tags) != "[1 2 3 4]" {
		t.Error("the lists of a copy are one:", c)
	}
}
