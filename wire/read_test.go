package wire_test

import (
	"fmt"
	"math/rand"
	"net/netip"
	"regexp"
	"slices"
	"strconv"
	"strings"
	"testing"

	"herepath/api"
	"herepath/attr"
	"herepath/wire"
)

// wantRead: with an error, the message is its zero value (P3).
func wantRead(t *testing.T, s string, want api.Msg, fails fault) {
	t.Helper()
	got, err := wire.Read(s)
	what := fmt.Sprintf("Read(%.200q)", s)
	fails.check(t, what, err)
	if !same(got, want) {
		t.Errorf("%s = %v, want %v", what, got, want)
	}
}

func wantText(t *testing.T, s string, at int) {
	t.Helper()
	wantRead(t, s, api.Msg{}, fault{at, api.ErrText})
}

// notHeads: first lines that are none.
var notHeads = []string{
	"", " ", "what", "x", "-", "+", "- ", "+ ", "- 10.0.0.0/8", "+ 10.0.0.0/8 - 1 1 1 -", "-10.0.0.0/8",
	"open", "open ", "open  1", "open 1 ", " open 1", "open\t1", "open1", "open 01", "open 00", "open -1", "open +1", "open 1.0", "open 1 1", "open x", "open 1x", "open 0x1", "open 1\r", "open １", "open 1000000000", "open 1234567890", "open 0000000001", "open -", "OPEN 1", "Open 1", "opens 1",
	"note", "note ", "note  1", "note 1 ", " note 1", "note1", "note 01", "note 00", "note -1", "note +1", "note -0", "note 1000000000", "note x", "Note 1", "notes 1",
	"keep ", " keep", "keep 0", "keep 1", "keeps", "Keep", "kee", "keep\r", "keep\x00", "\ufeffkeep", "keepkeep", "keep keep",
	"news ", " news", "news 0", "news 1", "newss", "News", "new", "news\r", "news - 10.0.0.0/8", "newsnews",
	"\x00", "\xff", "\r", "keep;", "news;",
}

func TestReadHeadWrong(t *testing.T) {
	for _, head := range notHeads {
		wantText(t, head, 0)
		wantText(t, head+"\n", 0)
		wantText(t, head+"\n- 10.0.0.0/8\n", 0)
		wantText(t, head+"\nx", 0)
		wantText(t, head+"\nkeep\n", 0)
	}
	for _, s := range []string{"\n\n", "\nkeep\n", "keep", "news", "open 1", "note 1", "open 0", "note 1001", "keep\r\n"} {
		wantText(t, s, 0)
	}
}

// Nothing comes behind what is no news.
func TestReadBehindOneLine(t *testing.T) {
	for _, head := range []string{"keep\n", "open 1\n", "note 1\n", "open 0\n", "note 1001\n", "open 999999999\n"} {
		for _, line := range []string{"\n", "x", "x\n", " ", "keep\n", "keep", "news\n", "open 1\n", "note 1\n", "- 10.0.0.0/8\n", "- 10.0.0.0/8", "+ 10.0.0.0/8 - 1 1 1 -\n", "+ 10.0.0.0/8 x\n", "\n\n\n", "\x00\n", "\r\n"} {
			wantText(t, head+line, 1)
		}
	}
}

// notLines: lines behind news that are none, wherever they come.
var notLines = []string{
	"", " ", "x", "news", "keep", "open 1", "note 1", "-", "+", "- ", "+ ", "--", "++", "*", "* 10.0.0.0/8", "10.0.0.0/8", "-10.0.0.0/8", "+10.0.0.0/8 - 1 1 1 -", " - 10.0.0.0/8", " + 10.0.0.0/8 - 1 1 1 -",
	"-  10.0.0.0/8", "- 10.0.0.0/8 ", "- 10.0.0.0/8 - 1 1 1 -", "-\t10.0.0.0/8", "- 10.0.0.0/8\r", "- 10.0.0.0/8\x00", "- 10.0.0.0/8,11.0.0.0/8", "-- 10.0.0.0/8", "- - 10.0.0.0/8",
	"- x", "- 10.0.0.0", "- 10.0.0.0/", "- /8", "- 10.0.0/8", "- 10.0.0.0.0/8", "- 10.0.0.0/33", "- 10.0.0.0/08", "- 010.0.0.0/8", "- 256.0.0.0/8", "- 10.0.0.0/-1", "- 10.0.0.0/6", "- 10.0.0.1/31", "- 0.0.0.1/0", "- 10.0.0.0/999999999", "- 10.0.0.0/1000000000", "- 10.0.0.0/8/8", "- ::/0",
	"+ 10.0.0.0/8", "+  10.0.0.0/8 - 1 1 1 -", "+ 10.0.0.0 - 1 1 1 -", "+ 10.0.0.0/6 - 1 1 1 -", "+ 10.0.0.0/33 - 1 1 1 -", "+ 10.0.0.0/08 - 1 1 1 -", "+ 10.0.0.1/31 x", "+ x - 1 1 1 -", "+ x", "+ - 1 1 1 -", "+ 10.0.0.0/8\t- 1 1 1 -", "+\t10.0.0.0/8 - 1 1 1 -", "+ - 10.0.0.0/8", "+- 10.0.0.0/8", "+ 256.0.0.0/8 - 1 1 1 -", "+ 10.0.0.0/8,- 1 1 1 -", "+ 10.0.0.0/8\r",
	"\x00", "\xff", "\r", "− 10.0.0.0/8", "＋ 10.0.0.0/8 - 1 1 1 -",
}

func TestReadLinesWrong(t *testing.T) {
	for _, ahead := range []string{"", "- 1.0.0.0/8\n", "- 1.0.0.0/8\n- 1.0.0.0/9\n", "+ 1.0.0.0/8 - 1 1 1 -\n", "- 1.0.0.0/8\n+ 2.0.0.0/8 - 1 1 1 -\n", "+ 1.0.0.0/8 x\n", "- 2.0.0.0/8\n- 1.0.0.0/8\n+ 1.0.0.0/8 - 1 1 1 -\n"} {
		at := 1 + strings.Count(ahead, "\n")
		for _, line := range notLines {
			if line != "" {
				wantText(t, "news\n"+ahead+line, at)
			}
			wantText(t, "news\n"+ahead+line+"\n", at)
			wantText(t, "news\n"+ahead+line+"\n+ 20.0.0.0/8 - 1 1 1 -\n", at)
			wantText(t, "news\n"+ahead+line+"\nx\ny", at)
		}
	}
}

func TestReadLastLineWithoutEnd(t *testing.T) {
	for s, at := range map[string]int{
		"keep": 0, "news": 0, "open 1": 0, "note 0": 0, "": 0,
		"news\n- 10.0.0.0/8": 1, "news\n- 10.0.0.0/8\n- 11.0.0.0/8": 2, "news\n+ 10.0.0.0/8 - 1 1 1 -": 1, "news\n+ 10.0.0.0/8 x": 1, "news\n+ 10.0.0.0/8 ": 1, "news\n- 10.0.0.0/8\n+ 11.0.0.0/8 - 1 1 1 -": 2, "news\n- 10.0.0.0/8\n+ 10.0.0.0/8 x": 2, "news\n ": 1, "news\n\r": 1,
	} {
		wantText(t, s, at)
	}
}

// Lines of Drops come ahead of all of Adds, also of such as became Drops.
func TestReadLinesOutOfOrder(t *testing.T) {
	for s, at := range map[string]int{
		"news\n+ 10.0.0.0/8 - 1 1 1 -\n- 11.0.0.0/8\n":                                    2,
		"news\n+ 10.0.0.0/8 x\n- 11.0.0.0/8\n":                                            2,
		"news\n+ 10.0.0.0/8 \n- 10.0.0.0/8\n":                                             2,
		"news\n- 10.0.0.0/8\n+ 10.0.0.0/8 x\n- 11.0.0.0/8\n":                              3,
		"news\n- 10.0.0.0/8\n+ 11.0.0.0/8 - 1 1 1 -\n- 12.0.0.0/8\n":                      3,
		"news\n- 10.0.0.0/8\n+ 11.0.0.0/8 - 1 1 1 -\n- 12.0.0.0/8\n+ 13.0.0.0/8 x\nx\n":   3,
		"news\n- 10.0.0.0/8\n+ 11.0.0.0/8 - 1 1 1 -\n+ 12.0.0.0/8 - 1 1 1 -\n- 9.0.0.0/8": 4,
		"news\n- 10.0.0.0/8\n+ 11.0.0.0/8 - 1 1 1 -\n+ 12.0.0.0/8 x\n- 9.0.0.0/8\n":       4,
		"news\nnews\n":                          1,
		"news\n- 10.0.0.0/8\nnews\n":            2,
		"news\n- 10.0.0.0/8\nkeep\n":            2,
		"- 10.0.0.0/8\nnews\n":                  0,
		"+ 10.0.0.0/8 - 1 1 1 -\nnews\n":        0,
		"keep\nnews\n- 10.0.0.0/8\n":            1,
		"news\n- 11.0.0.0/8\n- 10.0.0.0/8\nx\n": 3,
		"news\n- 10.0.0.0/8\n\n- 11.0.0.0/8\n":  2,
		"news\n\n- 10.0.0.0/8\n":                1,
		"news\n- 10.0.0.0/8\n- 11.0.0.0/8\n\n":  3,
		"news\n+ 10.0.0.0/8 - 1 1 1 -\n\n":      2,
	} {
		wantText(t, s, at)
	}
}

// notAttrTexts: no texts, and texts of what is not right.
var notAttrTexts = []string{
	"", " ", "x", "-", "- 1 1 1", "- 1 1 1 - ", " - 1 1 1 -", "- 1 1 1 - -", "-  1 1 1 -", "- 01 1 1 -", "- -1 1 1 -", "- 1000000000 1 1 -", "1- 1 1 1 -", "- 1 1 1 5,", "- 1 1 1 -\r", "\x00", "\xff", "- 10.0.0.0/8", "+ 10.0.0.0/8 - 1 1 1 -",
	"0 1 1 1 -", "1001 1 1 1 -", "- 1001 1 1 -", "- 1 1001 1 -", "- 1 1 3 -", "- 1 1 1 0", "- 1 1 1 10000", "- 1 1 1 5,5", "- 1 1 1 6,5", "1-2-3-4-5-6-7-8-9-10-11-12-13 1 1 1 -", "- 1 1 1 1,2,3,4,5,6,7,8,9", "- 999999999 1 1 -",
}

func TestReadAddsThatAreNone(t *testing.T) {
	for _, told := range notAttrTexts {
		bad := func(p string) string { return "+ " + p + " " + told + "\n" }
		for s, want := range map[string]api.Msg{
			// A prefix that is not among Drops: ahead of all, between, behind all.
			"news\n" + bad("10.0.0.0/8"):                              {Drops: pres("10.0.0.0/8")},
			"news\n- 11.0.0.0/8\n- 13.0.0.0/8\n" + bad("10.0.0.0/8"):  {Drops: pres("10.0.0.0/8", "11.0.0.0/8", "13.0.0.0/8")},
			"news\n- 11.0.0.0/8\n- 13.0.0.0/8\n" + bad("12.0.0.0/8"):  {Drops: pres("11.0.0.0/8", "12.0.0.0/8", "13.0.0.0/8")},
			"news\n- 11.0.0.0/8\n- 13.0.0.0/8\n" + bad("14.0.0.0/8"):  {Drops: pres("11.0.0.0/8", "13.0.0.0/8", "14.0.0.0/8")},
			"news\n- 11.0.0.0/8\n- 11.0.0.0/10\n" + bad("11.0.0.0/9"): {Drops: pres("11.0.0.0/8", "11.0.0.0/9", "11.0.0.0/10")},
			// One that is.
			"news\n- 11.0.0.0/8\n" + bad("11.0.0.0/8"):                                   {Drops: pres("11.0.0.0/8")},
			"news\n- 10.0.0.0/8\n- 11.0.0.0/8\n- 12.0.0.0/8\n" + bad("11.0.0.0/8"):       {Drops: pres("10.0.0.0/8", "11.0.0.0/8", "12.0.0.0/8")},
			"news\n- 10.0.0.0/8\n- 12.0.0.0/8\n" + bad("10.0.0.0/8") + bad("12.0.0.0/8"): {Drops: pres("10.0.0.0/8", "12.0.0.0/8")},
			// Several, in any order, and one again.
			"news\n" + bad("10.0.0.0/8") + bad("11.0.0.0/8"):                                                     {Drops: pres("10.0.0.0/8", "11.0.0.0/8")},
			"news\n" + bad("11.0.0.0/8") + bad("10.0.0.0/8"):                                                     {Drops: pres("10.0.0.0/8", "11.0.0.0/8")},
			"news\n" + bad("11.0.0.0/8") + bad("11.0.0.0/8"):                                                     {Drops: pres("11.0.0.0/8")},
			"news\n" + bad("11.0.0.0/8") + bad("10.0.0.0/8") + bad("11.0.0.0/8"):                                 {Drops: pres("10.0.0.0/8", "11.0.0.0/8")},
			"news\n- 9.0.0.0/8\n" + bad("11.0.0.0/9") + bad("10.0.0.0/8") + bad("11.0.0.0/8") + bad("1.0.0.0/8"): {Drops: pres("1.0.0.0/8", "9.0.0.0/8", "10.0.0.0/8", "11.0.0.0/8", "11.0.0.0/9")},
			// Among those that are right: these keep their order, and are asked of their own alone.
			"news\n+ 10.0.0.0/8 - 100 0 0 -\n" + bad("11.0.0.0/8") + "+ 12.0.0.0/8 - 100 0 0 -\n": {Drops: pres("11.0.0.0/8"), Adds: routes(pres("10.0.0.0/8", "12.0.0.0/8")...)},
			"news\n+ 10.0.0.0/8 - 100 0 0 -\n" + bad("9.0.0.0/8") + "+ 12.0.0.0/8 - 100 0 0 -\n":  {Drops: pres("9.0.0.0/8"), Adds: routes(pres("10.0.0.0/8", "12.0.0.0/8")...)},
		} {
			want.Kind = "news"
			wantRead(t, s, want, fault{})
		}
		// One that is also told rightly is among Drops and Adds.
		wantRead(t, "news\n+ 10.0.0.0/8 - 1 1 1 -\n"+bad("10.0.0.0/8"), api.Msg{}, bare(api.ErrExist))
		wantRead(t, "news\n"+bad("10.0.0.0/8")+"+ 10.0.0.0/8 - 1 1 1 -\n", api.Msg{}, bare(api.ErrExist))
		// Drops that do not rise are not put in order by one more.
		wantRead(t, "news\n- 12.0.0.0/8\n- 10.0.0.0/8\n"+bad("11.0.0.0/8"), api.Msg{}, bare(api.ErrOrder))
		wantRead(t, "news\n- 12.0.0.0/8\n- 12.0.0.0/8\n"+bad("12.0.0.0/8"), api.Msg{}, bare(api.ErrOrder))
		wantText(t, "news\n- 12.0.0.0/8\n"+strings.TrimSuffix(bad("11.0.0.0/8"), "\n"), 2)
	}
}

// Adds that became Drops count as these.
func TestReadCountsWhatItBecame(t *testing.T) {
	lines := func(from, count int, behind string) string {
		s := ""
		for _, p := range many(from, count) {
			s += "+ " + spellPrefix(p) + " " + behind + "\n"
		}
		return s
	}
	drops := func(from, count int) string { return spell(api.Msg{Kind: "news", Drops: many(from, count)}) }
	wantRead(t, drops(0, 60)+lines(60, 1, "x"), api.Msg{}, bare(api.ErrFull))
	wantRead(t, drops(0, 60)+lines(0, 60, "x"), api.Msg{Kind: "news", Drops: many(0, 60)}, fault{})
	wantRead(t, drops(1, 59)+lines(0, 1, "x"), api.Msg{Kind: "news", Drops: many(0, 60)}, fault{})
	wantRead(t, "news\n"+lines(0, 60, "x"), api.Msg{Kind: "news", Drops: many(0, 60)}, fault{})
	wantRead(t, "news\n"+lines(0, 61, "x"), api.Msg{}, bare(api.ErrFull))
	wantRead(t, "news\n"+lines(0, 60, "- 100 0 0 -"), api.Msg{Kind: "news", Adds: routes(many(0, 60)...)}, fault{})
	wantRead(t, "news\n"+lines(0, 61, "- 100 0 0 -"), api.Msg{}, bare(api.ErrFull))
	wantRead(t, "news\n"+lines(0, 60, "- 100 0 0 -")+lines(60, 60, "x"), api.Msg{Kind: "news", Drops: many(60, 60), Adds: routes(many(0, 60)...)}, fault{})
	wantRead(t, "news\n"+strings.Repeat("+ 10.0.0.0/8 x\n", 100), api.Msg{Kind: "news", Drops: pres("10.0.0.0/8")}, fault{})
	// Once, also among so many that do not rise: else there would be one too many.
	fallen := many(0, 60)
	slices.Reverse(fallen)
	wantRead(t, spell(api.Msg{Kind: "news", Drops: fallen})+lines(0, 60, "x"), api.Msg{}, bare(api.ErrOrder))
	wantRead(t, spell(api.Msg{Kind: "news", Drops: append(many(0, 60), many(0, 1)...)}), api.Msg{}, bare(api.ErrFull))
}

// Check's errors come without their places, and behind those of lines.
func TestReadChecks(t *testing.T) {
	for s, want := range map[string]error{
		"open 0\n": api.ErrBound, "open 1001\n": api.ErrBound, "open 999999999\n": api.ErrBound, "note 1001\n": api.ErrBound, "note 999999999\n": api.ErrBound,
		"news\n- 10.0.0.0/8\n- 10.0.0.0/8\n":                                   api.ErrOrder,
		"news\n- 10.0.0.0/9\n- 10.0.0.0/8\n":                                   api.ErrOrder,
		"news\n- 11.0.0.0/8\n- 10.0.0.0/8\n":                                   api.ErrOrder,
		"news\n+ 10.0.0.0/8 - 1 1 1 -\n+ 10.0.0.0/8 - 1 1 1 -\n":               api.ErrOrder,
		"news\n+ 11.0.0.0/8 - 1 1 1 -\n+ 10.0.0.0/8 - 1 1 1 -\n":               api.ErrOrder,
		"news\n- 10.0.0.0/8\n+ 10.0.0.0/8 - 1 1 1 -\n":                         api.ErrExist,
		"news\n- 11.0.0.0/8\n+ 10.0.0.0/8 - 1 1 1 -\n+ 11.0.0.0/8 - 1 1 1 -\n": api.ErrExist,
		"news\n" + strings.Repeat("- 10.0.0.0/8\n", 61):                        api.ErrFull,
		"news\n" + strings.Repeat("+ 10.0.0.0/8 - 1 1 1 -\n", 61):              api.ErrFull,
	} {
		wantRead(t, s, api.Msg{}, bare(want))
		wantText(t, s+"x", strings.Count(s, "\n"))
		wantText(t, s+"\n", strings.Count(s, "\n"))
	}
}

// Bytes are counted, not signs; what is too long is not looked into.
func TestReadMaxText(t *testing.T) {
	for s, want := range map[string]fault{
		strings.Repeat("x", 8000):                       {0, api.ErrText},
		strings.Repeat("x", 8001):                       bare(api.ErrBound),
		strings.Repeat("\n", 8000):                      {0, api.ErrText},
		strings.Repeat("\n", 8001):                      bare(api.ErrBound),
		strings.Repeat("é", 4000):                       {0, api.ErrText},
		strings.Repeat("é", 4000) + "x":                 bare(api.ErrBound),
		strings.Repeat("x", 1<<22):                      bare(api.ErrBound),
		"keep\n" + strings.Repeat("x", 7995):            {1, api.ErrText},
		"keep\n" + strings.Repeat("x", 7996):            bare(api.ErrBound),
		"open 1\n" + strings.Repeat("open 1\n", 1142):   bare(api.ErrBound),
		"open 1\n" + strings.Repeat("open 1\n", 1141):   {1, api.ErrText},
		"news\n" + strings.Repeat("- 1.0.0.0/8\n", 666): bare(api.ErrFull),
		"news\n" + strings.Repeat("- 1.0.0.0/8\n", 667): bare(api.ErrBound),
	} {
		wantRead(t, s, api.Msg{}, want)
	}
	// A line of Adds whose ATTR is none, of all bytes that there may be.
	long := "news\n+ 10.0.0.0/8 " + strings.Repeat("1-", 4000)
	wantRead(t, long[:7999]+"\n", api.Msg{Kind: "news", Drops: pres("10.0.0.0/8")}, fault{})
	wantRead(t, long[:8000]+"\n", api.Msg{}, bare(api.ErrBound))
}

var headForm = regexp.MustCompile(`^(?:(open|note) (0|[1-9][0-9]{0,8})|(keep|news))$`)

// rightPrefix by the library's own reader.
func rightPrefix(s string) bool {
	p, err := netip.ParsePrefix(s)
	return err == nil && p.Addr().Is4() && p.Masked() == p && p.String() == s
}

// readModel: by forms of lines, and with prefixes as texts, which are put in order in the end.
func readModel(s string) (api.Msg, fault) {
	if len(s) > 8000 {
		return api.Msg{}, bare(api.ErrBound)
	}
	lines := strings.Split(s, "\n")
	var m api.Msg
	lost := map[api.Prefix]int{}
	step := 0
	for at, line := range lines {
		wrong := fault{at, api.ErrText}
		if at == len(lines)-1 {
			if line != "" || at == 0 {
				return api.Msg{}, wrong
			}
			break
		}
		words := strings.Split(line, " ")
		switch head := headForm.FindStringSubmatch(line); {
		case at == 0 && head != nil:
			m.Kind = head[1] + head[3]
			m.N, _ = strconv.Atoi(head[2])
		case at > 0 && m.Kind == "news" && len(words) == 2 && words[0] == "-" && rightPrefix(words[1]) && step < 2:
			m.Drops = append(m.Drops, pre(words[1]))
			step = 1
		case at > 0 && m.Kind == "news" && len(words) > 2 && words[0] == "+" && rightPrefix(words[1]):
			step = 2
			if a, err := attr.Read(strings.Join(words[2:], " ")); err == nil {
				m.Adds = append(m.Adds, api.Route{To: pre(words[1]), Attr: a})
			} else {
				lost[pre(words[1])]++
			}
		default:
			return api.Msg{}, wrong
		}
	}
	// What does not rise stays so with more: only what rises needs its places.
	rises := model(api.Msg{Kind: "news", Drops: m.Drops}).err != api.ErrOrder
	for p := range lost {
		if !slices.Contains(m.Drops, p) {
			m.Drops = append(m.Drops, p)
		}
	}
	if rises {
		slices.SortFunc(m.Drops, func(x, y api.Prefix) int { return (x.Addr-y.Addr)*64 + x.Len - y.Len })
	} else if len(m.Drops) <= 60 {
		return api.Msg{}, bare(api.ErrOrder)
	}
	if f := model(m); f.err != nil {
		return api.Msg{}, bare(f.err)
	}
	return m, fault{}
}

// readsWell: as the model says; and what is read is right, and reads the same once it is written.
func readsWell(t *testing.T, s string) {
	t.Helper()
	want, fails := readModel(s)
	wantRead(t, s, want, fails)
	if fails.err != nil {
		return
	}
	m, _ := wire.Read(s)
	text, err := wire.Text(m)
	again, errAgain := wire.Read(text)
	if wire.Check(m) != nil || err != nil || errAgain != nil || !same(again, m) || text != spell(m) {
		t.Errorf("%q is read as %v, written as %q (%v), read as %v (%v)", s, m, text, err, again, errAgain)
	}
}

// All texts of up to five lines of a few, right and wrong.
func TestReadAgainstModel(t *testing.T) {
	lines := []string{"news\n", "- 1.0.0.0/8\n", "- 2.0.0.0/8\n", "+ 1.0.0.0/8 x\n", "+ 2.0.0.0/8 - 0 0 0 -\n", "+ 3.0.0.0/8 \n", "+ 4.0.0.0/8 1 2 3 1 4\n", "- 3.0.0.0/8", "keep\n", "\n"}
	texts := []string{""}
	right := 0
	for range 5 {
		var longer []string
		for _, s := range texts {
			for _, line := range lines {
				longer = append(longer, s+line)
			}
		}
		for _, s := range longer {
			readsWell(t, s)
			if _, err := wire.Read(s); err == nil {
				right++
			}
		}
		// What does not begin as news is told by its first lines.
		texts = slices.DeleteFunc(longer, func(s string) bool { return len(s) > 6 && !strings.HasPrefix(s, "news\n") })
	}
	if right < 200 {
		t.Error("too few are right:", right)
	}
}

// Texts of right messages with some signs changed, lines lost, said again, or moved.
func TestReadAgainstModelAtRandom(t *testing.T) {
	const signs = "01259-,+ \n/.x"
	r := rand.New(rand.NewSource(2))
	right := 0
	for range 20000 {
		m := someMsg(r)
		m.Drops, m.Adds = m.Drops[:min(len(m.Drops), 4)], m.Adds[:min(len(m.Adds), 4)]
		lines := strings.SplitAfter(spell(m), "\n")
		if r.Intn(3) == 0 {
			i, j := r.Intn(len(lines)), r.Intn(len(lines))
			lines[i], lines[j] = lines[j], lines[i]
		}
		if r.Intn(4) == 0 {
			i := r.Intn(len(lines))
			lines = slices.Insert(lines, i, lines[r.Intn(len(lines))])
		}
		s := []byte(strings.Join(lines, ""))
		for range r.Intn(3) {
			s[r.Intn(len(s))] = signs[r.Intn(len(signs))]
		}
		readsWell(t, string(s))
		if _, err := wire.Read(string(s)); err == nil {
			right++
		}
	}
	if right < 2000 || right > 19000 {
		t.Errorf("%d texts are right: too few, or too many, to say much", right)
	}
}

func FuzzRead(f *testing.F) {
	for _, s := range notHeads {
		f.Add(s + "\n")
	}
	for _, s := range notLines {
		f.Add("news\n" + s + "\n")
	}
	for _, s := range notAttrTexts {
		f.Add("news\n- 10.0.0.0/8\n+ 9.0.0.0/8 " + s + "\n+ 11.0.0.0/8 1-2 100 0 0 5\n")
	}
	f.Fuzz(func(t *testing.T, s string) { readsWell(t, s) })
}
