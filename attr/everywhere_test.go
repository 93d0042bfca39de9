package attr_test

import (
	"fmt"
	"math"
	"math/rand"
	"slices"
	"strings"
	"sync"
	"testing"

	"herepath/api"
	"herepath/attr"
	"herepath/plain"
)

var strangeNumbers = []int{math.MinInt, math.MinInt + 1, math.MinInt32, -1001, -13, -1, 0, 1, 2, 3, 8, 9, 12, 13, 1000, 1001, 9999, 10000, math.MaxInt32, 1 << 32, 1 << 62, math.MaxInt - 1, math.MaxInt}

// tellAll asks every call of the package, and writes down what it answers.
func tellAll(a, b api.Attr, n, m int, s string) string {
	read, errRead := attr.Read(s)
	led, errLed := attr.Lead(a, n, m)
	tagged, errTagged := attr.Tag(a, n)
	code, at := plain.Code(attr.Check(a))
	return fmt.Sprint(code, at, attr.Text(a), read, errRead, attr.Own(), led, errLed, tagged, errTagged, attr.Through(a, n), attr.Same(a, b))
}

// strangeLists: none, short ones of each strange number, and ones that are too long.
func strangeLists() [][]int {
	l := [][]int{nil, {}, slices.Clone(strangeNumbers), make([]int, 1<<20)}
	for _, n := range strangeNumbers {
		l = append(l, []int{n}, []int{1, n}, times(n, 12))
	}
	return l
}

// P1: a panic fails the test, and so does a call that does not end.
func TestNoCallPanics(t *testing.T) {
	for _, l := range strangeLists() {
		for _, n := range strangeNumbers {
			for _, a := range []api.Attr{{Path: l, Pref: n}, {Tags: l, Med: n}, {Path: l, Tags: l}, {Path: []int{n}, Origin: n, Tags: l}} {
				attr.Check(a)
				attr.Text(a)
				attr.Through(a, n)
				attr.Same(a, api.Attr{Path: l, Pref: n, Tags: l})
				for _, m := range strangeNumbers {
					attr.Lead(a, n, m)
					attr.Lead(a, m, n)
				}
				attr.Tag(a, n)
			}
		}
	}
}

func TestLongTexts(t *testing.T) {
	many := 1 << 20
	for s, want := range map[string]error{
		strings.Repeat(" ", many):                              api.ErrText,
		strings.Repeat("-", many):                              api.ErrText,
		strings.Repeat("1", many) + " 1 1 1 -":                 api.ErrText,
		strings.Repeat("1-", many) + " 1 1 1 -":                api.ErrText,
		strings.Repeat("1-", many) + "1 1 1 1 -":               api.ErrFull,
		"- 1 1 1 " + strings.Repeat(",", many):                 api.ErrText,
		"- 1 1 1 " + strings.Repeat("1,", many) + "1":          api.ErrFull,
		"- 1 1 1 -" + strings.Repeat(" ", many):                api.ErrText,
		"- " + strings.Repeat("0", many) + " 1 1 -":            api.ErrText,
		"- 1 1 " + strings.Repeat("9", many) + " -":            api.ErrText,
		strings.Repeat("- 1 1 1 - ", many):                     api.ErrText,
		strings.Repeat("1-", many) + "1 1 1 1 5," + "\x00\xff": api.ErrText,
	} {
		got, err := attr.Read(s)
		checkBare(t, fmt.Sprintf("%.20q", s), err, want)
		checkNothing(t, fmt.Sprintf("%.20q", s), got)
	}
}

// behind: the list in memory that goes on, with wrong numbers behind its length.
func behind(l []int) []int {
	return append(slices.Clone(l), times(-7, 15)...)[:len(l)]
}

func whole(a api.Attr) string {
	return fmt.Sprint(a.Path[:cap(a.Path)], a.Tags[:cap(a.Tags)], a.Pref, a.Med, a.Origin)
}

// scribble over all the memory of what was answered.
func scribble(a api.Attr) {
	for _, l := range [][]int{a.Path[:cap(a.Path)], a.Tags[:cap(a.Tags)]} {
		for i := range l {
			l[i] = -9
		}
	}
}

// P3, P4: what is handed over is only read, as far as it is long, and not kept; what is answered is new memory.
func TestArgumentsStay(t *testing.T) {
	r := rand.New(rand.NewSource(4))
	for range 5000 {
		a := someAttr(r)
		a.Path, a.Tags = behind(a.Path), behind(a.Tags)
		n, m := 1+r.Intn(1000), r.Intn(4)
		before := whole(a)
		told := tellAll(a, a, n, m, attr.Text(a))
		if whole(a) != before {
			t.Fatalf("%s was %s", whole(a), before)
		}
		led, errLed := attr.Lead(a, n, m)
		same0, _ := attr.Lead(a, n, 0)
		tagged, errTagged := attr.Tag(a, n)
		there := api.Attr{}
		if len(a.Tags) > 0 {
			there, _ = attr.Tag(a, a.Tags[0])
		}
		answers := []api.Attr{led, same0, tagged, there}
		for i := range answers {
			kept := fmt.Sprint(answers[i+1:])
			scribble(answers[i])
			if whole(a) != before || tellAll(a, a, n, m, attr.Text(a)) != told || fmt.Sprint(answers[i+1:]) != kept {
				t.Fatalf("what is written into an answer (%v, %v) shows: %s, then %s", errLed, errTagged, before, whole(a))
			}
		}
	}
}

// The two lists of one answer share no memory either.
func TestListsOfAnAnswerAreApart(t *testing.T) {
	l := behind(rising(1, 4))
	a := api.Attr{Path: l, Tags: l}
	read, errRead := attr.Read("1-2-3-4 0 0 0 1,2,3,4")
	led, errLed := attr.Lead(a, 7, 0)
	tagged, errTagged := attr.Tag(a, 2)
	for _, x := range []api.Attr{read, led, tagged} {
		scribble(api.Attr{Path: x.Path})
		if fmt.Sprint(x.Tags) != "[1 2 3 4]" || errRead != nil || errLed != nil || errTagged != nil {
			t.Error("what is written into a path shows in the tags:", x, errRead, errLed, errTagged)
		}
	}
}

// A later change of what was handed over does not show in an answer.
func TestAnswersStay(t *testing.T) {
	a := api.Attr{Path: []int{1, 2}, Pref: 5, Tags: []int{5, 9}}
	led, _ := attr.Lead(a, 7, 1)
	led0, _ := attr.Lead(a, 7, 0)
	tagged, _ := attr.Tag(a, 7)
	there, _ := attr.Tag(a, 5)
	scribble(a)
	for want, got := range map[string]api.Attr{"7-1-2 5 0 0 5,9": led, "1-2 5 0 0 5,9": led0, "1-2 5 0 0 5,7,9": tagged} {
		if attr.Text(got) != want {
			t.Errorf("a later change shows: %v, want %s", got, want)
		}
	}
	if attr.Text(there) != "1-2 5 0 0 5,9" {
		t.Error("a later change shows:", there)
	}
}

// P2, P4: neither what was asked ahead, nor who asks at the same time, shows in an answer; go test -race would tell of memory that is shared.
func TestAnswersHangOnArgumentsAlone(t *testing.T) {
	r := rand.New(rand.NewSource(6))
	var l []api.Attr
	for range 200 {
		l = append(l, someAttr(r))
	}
	for i, c := range wrongAttrs() {
		if i%5 == 0 {
			l = append(l, c.a)
		}
	}
	ask := func(i int) string {
		s := notTexts[i%len(notTexts)]
		if i%2 == 0 {
			s = spell(l[i])
		}
		return tellAll(l[i], l[(i*7+3)%len(l)], i%50, i%14, s)
	}
	first := make([]string, len(l))
	for i := range l {
		first[i] = ask(i)
	}
	var wg sync.WaitGroup
	for worker := range 8 {
		wg.Go(func() {
			for i := range l {
				k := len(l) - 1 - (i+worker*31)%len(l)
				if got := ask(k); got != first[k] {
					t.Errorf("%v: %q, then %q", l[k], first[k], got)
				}
			}
		})
	}
	wg.Wait()
}

// A fault is new memory, too.
func TestFaultsAreNew(t *testing.T) {
	a := api.Attr{Path: []int{1, 0}}
	first, ok := attr.Check(a).(*api.Fault)
	if !ok {
		t.Fatal("no fault")
	}
	*first = api.Fault{At: 9, Err: api.ErrLoop}
	fault{1, api.ErrBound}.check(t, "a fault asked again", attr.Check(a))
}

func TestNilAndEmptyAreOneThing(t *testing.T) {
	lists := [][]int{nil, {}, behind(nil)}
	for _, p := range lists {
		for _, g := range lists {
			a := api.Attr{Path: p, Pref: 3, Tags: g}
			led, errLed := attr.Lead(a, 7, 0)
			tagged, errTagged := attr.Tag(a, 7)
			if attr.Check(a) != nil || attr.Text(a) != "- 3 0 0 -" || !attr.Same(a, api.Attr{Pref: 3}) || !attr.Same(api.Attr{Pref: 3}, a) || attr.Through(a, 0) {
				t.Errorf("%v is not as one of nil lists", a)
			}
			if attr.Text(led) != "- 3 0 0 -" || attr.Text(tagged) != "- 3 0 0 7" || errLed != nil || errTagged != nil {
				t.Error(led, errLed, tagged, errTagged)
			}
		}
	}
}
