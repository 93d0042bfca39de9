package attr_test

import (
	"fmt"
	"math/rand"
	"strconv"
	"strings"
	"testing"

	"herepath/api"
	"herepath/attr"
)

func TestTextAndBack(t *testing.T) {
	for s, a := range map[string]api.Attr{
		"- 0 0 0 -":             {},
		"- 100 0 0 -":           {Pref: 100},
		"1 2 3 1 4":             {Path: []int{1}, Pref: 2, Med: 3, Origin: 1, Tags: []int{4}},
		"1000 1000 1000 2 9999": {Path: []int{1000}, Pref: 1000, Med: 1000, Origin: 2, Tags: []int{9999}},
		"10-20-10 0 0 0 -":      {Path: []int{10, 20, 10}},
		"- 0 0 0 5,50,500":      {Tags: []int{5, 50, 500}},
		"1-2-3-4-5-6-7-8-9-10-11-12 0 0 0 1,2,3,4,5,6,7,8":                                                                {Path: rising(1, 12), Tags: rising(1, 8)},
		"1000-1000-1000-1000-1000-1000-1000-1000-1000-1000-1000-1000 1000 1000 2 9992,9993,9994,9995,9996,9997,9998,9999": {Path: times(1000, 12), Pref: 1000, Med: 1000, Origin: 2, Tags: rising(9992, 8)},
	} {
		if got := attr.Text(a); got != s {
			t.Errorf("Text(%v) = %q, want %q", a, got, s)
		}
		if got, err := attr.Read(s); !same(got, a) || err != nil {
			t.Errorf("Read(%q) = %v, %v, want %v", s, got, err, a)
		}
	}
}

func TestTextWrong(t *testing.T) {
	for _, c := range wrongAttrs() {
		if got := attr.Text(c.a); got != "" {
			t.Errorf("Text(%v) = %q, want none", c.a, got)
		}
	}
}

// spell a text, right or not, by the words of the chapter alone.
func spell(a api.Attr) string {
	list := func(l []int, mark string) string {
		if len(l) == 0 {
			return "-"
		}
		return strings.Trim(strings.ReplaceAll(fmt.Sprint(l), " ", mark), "[]")
	}
	return fmt.Sprintf("%s %d %d %d %s", list(a.Path, "-"), a.Pref, a.Med, a.Origin, list(a.Tags, ","))
}

func hasMinus(a api.Attr) bool { return strings.Contains(fmt.Sprint(a), "-") }

// What is no number is told ahead of what is not right: a number below 0 has no text here.
func TestReadChecks(t *testing.T) {
	for _, c := range wrongAttrs() {
		want := c.want.err
		if hasMinus(c.a) {
			want = api.ErrText
		}
		s := spell(c.a)
		got, err := attr.Read(s)
		checkBare(t, s, err, want)
		checkNothing(t, s, got)
	}
}

// notTexts: not five words with one blank between, or with a number that is none.
var notTexts = []string{
	"", " ", "    ", "     ", "-", "- -", "- - - - -", "- 1", "- 1 1", "- 1 1 1", "- 1 1 1 - -", "- 1 1 1 - 1", "- 1 1 1 -  ", "1 1 1 1", "1 1 1 1 1 1",
	" - 1 1 1 -", "- 1 1 1 - ", "-  1 1 1 -", "- 1  1 1 -", "- 1 1  1 -", "- 1 1 1  -", " 1 1 1 -", "- 1 1 1 ", "- 1 1  -", "-  1 1 -", "- 1  1 -",
	"- 1 1 1 -\n", "\n- 1 1 1 -", "-\t1 1 1 -", "-\t1\t1\t1\t-", "- 1 1 1 -\x00", "\x00- 1 1 1 -", "- 1 1 1 -\r\n", "- 1 1\n1 -", "-\u00a01 1 1 -", "\ufeff- 1 1 1 -",
	"1- 1 1 1 -", "-1 1 1 1 -", "1--2 1 1 1 -", "-- 1 1 1 -", "--- 1 1 1 -", "1-2- 1 1 1 -", "-1-2 1 1 1 -", "1-- 1 1 1 -", "1,2 1 1 1 -", "1-2,3 1 1 1 -", "1.2 1 1 1 -", ", 1 1 1 -", "1- 2 1 1 1 -",
	"- 1 1 1 5,", "- 1 1 1 ,5", "- 1 1 1 ,", "- 1 1 1 5,,6", "- 1 1 1 5-6", "- 1 1 1 5,6-7", "- 1 1 1 --", "- 1 1 1 -5", "- 1 1 1 5-", "- 1 1 1 5,-", "- 1 1 1 -,5", "- 1 1 1 5;6", "- 1 1 1 5, 6", "- 1 1 1 5 6", "- 1 1 1 -,-",
	"- - 1 1 -", "- 1 - 1 -", "- 1 1 - -", "- -1 1 1 -", "- 1 -1 1 -", "- 1 1 -1 -", "- +1 1 1 -", "- 1 1,2 1 -", "- 1 1-2 1 -", "- -0 1 1 -",
	"none 1 1 1 none", "- a 1 1 -", "- 1 1 1 x", "x 1 1 1 -", "- 0x1 1 1 -", "- 1e2 1 1 -", "- 1_0 1 1 -", "- 1. 1 1 -", "- 1 1 1 \xff", "\xff\xfe", "- １ 1 1 -", "– 1 1 1 –",
}

func TestReadWrong(t *testing.T) {
	for _, s := range notTexts {
		got, err := attr.Read(s)
		checkBare(t, strconv.Quote(s), err, api.ErrText)
		checkNothing(t, strconv.Quote(s), got)
	}
}

// Each number of a text, in its turn, in the place of one that is right.
func TestReadNumbersOfEachPlace(t *testing.T) {
	for _, frame := range []string{"# 1 1 1 -", "7-# 1 1 1 5", "#-7 1 1 1 5", "- # 1 1 -", "- 1 # 1 -", "- 1 1 # -", "- 1 1 1 #", "- 1 1 1 1,#", "- 1 1 1 #,9999"} {
		for number, want := range map[string]error{
			"2":         nil,
			"99999":     api.ErrBound,
			"999999999": api.ErrBound,
			"100000000": api.ErrBound,
			// Ten digits are no number, whatever they say; so is one with needless zeros.
			"1000000000": api.ErrText, "1234567890": api.ErrText, "4294967298": api.ErrText, "18446744073709551618": api.ErrText,
			"02": api.ErrText, "002": api.ErrText, "00": api.ErrText, "000000002": api.ErrText, "0000000002": api.ErrText, "000000000": api.ErrText,
			"+2": api.ErrText, "2 ": api.ErrText, " 2": api.ErrText, "": api.ErrText, "2.0": api.ErrText, "0x2": api.ErrText, "2a": api.ErrText, "２": api.ErrText,
		} {
			s := strings.Replace(frame, "#", number, 1)
			got, err := attr.Read(s)
			checkBare(t, s, err, want)
			if err != nil {
				checkNothing(t, s, got)
			} else if spell(got) != s {
				t.Errorf("Read(%q) = %v", s, got)
			}
		}
	}
}

// 0 is a number, and right where it may be.
func TestReadZero(t *testing.T) {
	for s, want := range map[string]error{"- 0 1 1 -": nil, "- 1 0 1 -": nil, "- 1 1 0 -": nil, "0 1 1 1 -": api.ErrBound, "1-0 1 1 1 -": api.ErrBound, "- 1 1 1 0": api.ErrBound, "- 1 1 1 0,1": api.ErrBound, "- 1 1 1 1,0": api.ErrBound} {
		_, err := attr.Read(s)
		checkBare(t, s, err, want)
	}
}

// A text that is none, at its end, is told ahead of what is not right at its front.
func TestReadTextComesFirst(t *testing.T) {
	for _, s := range []string{
		"0 1 1 1 x", "1001 1 1 1 5,", "- 1001 1 1 05", "- 1 1001 01 -", "- 1 1 3 --", "- 1 1 1 0,x", "- 1 1 1 5,5,", "- 1 1 1 10000,01",
		strings.Repeat("1-", 13) + " 1 1 1 -", strings.Repeat("1-", 12) + "1 1 1 1 x", "- 1 1 1 " + strings.Repeat("5,", 20), "0 1 1 1 - -", "0 1 1 1",
	} {
		_, err := attr.Read(s)
		checkBare(t, s, err, api.ErrText)
	}
}

func TestReadLengths(t *testing.T) {
	for n := 1; n < 30; n++ {
		var wantPath, wantTags error
		if n > 12 {
			wantPath = api.ErrFull
		}
		if n > 8 {
			wantTags = api.ErrFull
		}
		for s, want := range map[string]error{spell(api.Attr{Path: rising(1, n)}): wantPath, spell(api.Attr{Tags: rising(1, n)}): wantTags} {
			got, err := attr.Read(s)
			checkBare(t, s, err, want)
			if len(got.Path)+len(got.Tags) != n && err == nil {
				t.Errorf("Read(%q) = %v", s, got)
			}
		}
	}
}

func someAttr(r *rand.Rand) api.Attr {
	a := api.Attr{Pref: r.Intn(1001), Med: r.Intn(1001), Origin: r.Intn(3)}
	for range r.Intn(13) {
		a.Path = append(a.Path, 1+r.Intn(1000))
	}
	tag := 0
	for range r.Intn(9) {
		tag += 1 + r.Intn(1200)
		a.Tags = append(a.Tags, tag)
	}
	return a
}

// P42
func TestAlwaysReadAsWritten(t *testing.T) {
	l := rightAttrs()
	r := rand.New(rand.NewSource(1))
	for range 20000 {
		l = append(l, someAttr(r))
	}
	for _, a := range l {
		s := attr.Text(a)
		got, err := attr.Read(s)
		if s != spell(a) || !same(got, a) || !attr.Same(got, a) || err != nil {
			t.Errorf("%v as %q is read as %v, %v", a, s, got, err)
		}
	}
}

// readsWell: what is read is right, and is written as it was read; else the error is one of those, bare.
func readsWell(t *testing.T, s string) {
	a, err := attr.Read(s)
	if err != nil {
		if err != api.ErrText && err != api.ErrBound && err != api.ErrOrder && err != api.ErrFull {
			t.Errorf("Read(%q): %#v", s, err)
		}
		checkNothing(t, s, a)
		return
	}
	if err := attr.Check(a); err != nil || attr.Text(a) != s || spell(a) != s {
		t.Errorf("%q is read as %v (%v), and written as %q", s, a, err, attr.Text(a))
	}
}

// P42, on texts of few signs.
func TestAlwaysWrittenAsRead(t *testing.T) {
	const signs = "01259-, -, 5"
	r := rand.New(rand.NewSource(2))
	read := 0
	for range 200000 {
		s := []byte(spell(someAttr(r)))
		for range r.Intn(3) {
			s[r.Intn(len(s))] = signs[r.Intn(len(signs))]
		}
		readsWell(t, string(s))
		if _, err := attr.Read(string(s)); err == nil {
			read++
		}
	}
	if read < 50000 || read > 199000 {
		t.Errorf("%d texts are right: too few, or too many, to say much", read)
	}
}

func FuzzRead(f *testing.F) {
	for _, s := range notTexts {
		f.Add(s)
	}
	for _, s := range []string{"- 100 0 0 -", "1-2-3 50 7 2 5,9999", "0 1 1 1 -", "- 1 1 1 5,5", "- 999999999 0 0 -"} {
		f.Add(s)
	}
	f.Fuzz(func(t *testing.T, s string) { readsWell(t, s) })
}
