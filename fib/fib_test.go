package fib_test

import (
	"fmt"
	"maps"
	"math"
	"math/rand"
	"slices"
	"strings"
	"testing"

	"herepath/api"
	"herepath/fib"
	"herepath/ip"
)

const last = 1<<32 - 1

// The faces stay as given.
var (
	_ func(int) *fib.Table                          = fib.New
	_ func(*fib.Table, api.Prefix, int) error       = (*fib.Table).Put
	_ func(*fib.Table, api.Prefix) error            = (*fib.Table).Drop
	_ func(*fib.Table, int) (api.Prefix, int, bool) = (*fib.Table).Find
	_ func(*fib.Table) []fib.Entry                  = (*fib.Table).All
	_ func(*fib.Table) int                          = (*fib.Table).Count
	_ func(*fib.Table, []fib.Entry) error           = (*fib.Table).Set
	_                                               = struct {
		To  api.Prefix
		Hop int
	}(fib.Entry{})
)

func prefix(t *testing.T, s string) api.Prefix {
	t.Helper()
	p, err := ip.Read(s)
	if err != nil {
		t.Fatalf("%q: %v", s, err)
	}
	return p
}

// entries of prefixes, with the hops 1, 2, and so on.
func entries(t *testing.T, s string) []fib.Entry {
	t.Helper()
	var l []fib.Entry
	for i, w := range strings.Fields(s) {
		l = append(l, fib.Entry{To: prefix(t, w), Hop: i + 1})
	}
	return l
}

func told(l []fib.Entry) string {
	var words []string
	for _, e := range l {
		words = append(words, fmt.Sprint(ip.Text(e.To), ">", e.Hop))
	}
	return strings.Join(words, " ")
}

// filled: a table for so many, with entries.
func filled(t *testing.T, most int, s string) *fib.Table {
	t.Helper()
	x := fib.New(most)
	for _, e := range entries(t, s) {
		put(t, x, e.To, e.Hop, nil)
	}
	return x
}

func put(t *testing.T, x *fib.Table, p api.Prefix, hop int, want error) {
	t.Helper()
	if err := x.Put(p, hop); err != want {
		t.Errorf("Put(%v, %d) = %v, want %v", p, hop, err, want)
	}
}

func drop(t *testing.T, x *fib.Table, p api.Prefix, want error) {
	t.Helper()
	if err := x.Drop(p); err != want {
		t.Errorf("Drop(%v) = %v, want %v", p, err, want)
	}
}

// holds: just these, by All and by Count.
func holds(t *testing.T, x *fib.Table, want string) {
	t.Helper()
	if got := told(x.All()); got != want || x.Count() != len(strings.Fields(want)) {
		t.Errorf("%d entries: %q, want %q", x.Count(), got, want)
	}
}

// finds: an address by its text; want is the prefix and its hop, or nothing.
func finds(t *testing.T, x *fib.Table, addr, want string) {
	t.Helper()
	a, err := ip.ReadAddr(addr)
	if err != nil {
		t.Fatalf("%q: %v", addr, err)
	}
	p, hop, is := x.Find(a)
	got := ""
	if is {
		got = told([]fib.Entry{{To: p, Hop: hop}})
	} else if p != (api.Prefix{}) || hop != 0 {
		t.Errorf("%s: %v and %d, where nothing is found", addr, p, hop)
	}
	if got != want {
		t.Errorf("%s: found %q, want %q", addr, got, want)
	}
}

func TestNewIsEmpty(t *testing.T) {
	for _, most := range []int{math.MinInt, -1, 0, 1, 60, 61, math.MaxInt} {
		x := fib.New(most)
		holds(t, x, "")
		finds(t, x, "0.0.0.0", "")
		finds(t, x, "255.255.255.255", "")
	}
}

func TestNewTakesSoMany(t *testing.T) {
	for most, want := range map[int]int{math.MinInt: 0, -1: 0, 0: 0, 1: 1, 2: 2, 59: 59, 60: 60, 61: 60, 1000: 60, math.MaxInt: 60} {
		x := fib.New(most)
		var l []fib.Entry
		for i := range 70 {
			p := api.Prefix{Addr: i << 8, Len: 24}
			l = append(l, fib.Entry{To: p, Hop: i})
			wanted := error(nil)
			if i >= want {
				wanted = api.ErrFull
			}
			put(t, x, p, i, wanted)
		}
		if !slices.Equal(x.All(), l[:want]) || x.Count() != want {
			t.Errorf("a table for %d has %d: %s", most, x.Count(), told(x.All()))
		}
	}
}

func TestPut(t *testing.T) {
	x := filled(t, 3, "10.0.0.0/8 10.1.0.0/16")
	holds(t, x, "10.0.0.0/8>1 10.1.0.0/16>2")
	put(t, x, prefix(t, "10.0.0.0/8"), -7, nil)
	holds(t, x, "10.0.0.0/8>-7 10.1.0.0/16>2")
	put(t, x, prefix(t, "10.0.0.0/16"), 3, nil)
	holds(t, x, "10.0.0.0/8>-7 10.0.0.0/16>3 10.1.0.0/16>2")
	finds(t, x, "10.1.0.1", "10.1.0.0/16>2")
}

func TestPutInAFullTable(t *testing.T) {
	x := filled(t, 2, "10.1.0.0/16 0.0.0.0/0")
	// On the way to what is there, and on from it.
	for _, s := range []string{"10.0.0.0/8", "10.1.0.0/17", "10.1.2.3/32", "11.0.0.0/8", "0.0.0.0/32"} {
		put(t, x, prefix(t, s), 9, api.ErrFull)
	}
	holds(t, x, "0.0.0.0/0>2 10.1.0.0/16>1")
	finds(t, x, "10.1.2.3", "10.1.0.0/16>1")
	finds(t, x, "11.0.0.0", "0.0.0.0/0>2")
	put(t, x, prefix(t, "10.1.0.0/16"), 8, nil)
	put(t, x, prefix(t, "0.0.0.0/0"), math.MinInt, nil)
	holds(t, x, "0.0.0.0/0>-9223372036854775808 10.1.0.0/16>8")
	drop(t, x, prefix(t, "10.1.0.0/16"), nil)
	put(t, x, prefix(t, "10.1.0.0/17"), 7, nil)
	put(t, x, prefix(t, "10.1.0.0/16"), 7, api.ErrFull)
	holds(t, x, "0.0.0.0/0>-9223372036854775808 10.1.0.0/17>7")
	none := fib.New(0)
	put(t, none, api.Prefix{}, 0, api.ErrFull)
	drop(t, none, api.Prefix{}, api.ErrNone)
	holds(t, none, "")
}

func TestAnyHop(t *testing.T) {
	for _, hop := range []int{0, -1, 1, 1000, 1001, math.MinInt, math.MaxInt} {
		x := fib.New(1)
		put(t, x, prefix(t, "10.0.0.0/8"), hop, nil)
		if p, got, is := x.Find(10 << 24); p != prefix(t, "10.0.0.0/8") || got != hop || !is {
			t.Errorf("%v, %d, %v, want the hop %d", p, got, is, hop)
		}
		if l := x.All(); len(l) != 1 || l[0].Hop != hop {
			t.Errorf("%v, want the hop %d", l, hop)
		}
	}
}

func TestDrop(t *testing.T) {
	const all = "0.0.0.0/0 10.0.0.0/8 10.0.0.0/9 10.128.0.0/9 10.0.0.0/32"
	x := filled(t, 9, all)
	for _, s := range []string{"10.0.0.0/7", "10.0.0.0/10", "10.0.0.0/31", "10.0.0.1/32", "0.0.0.0/1", "0.0.0.0/32", "255.255.255.255/32"} {
		drop(t, x, prefix(t, s), api.ErrNone)
	}
	holds(t, x, "0.0.0.0/0>1 10.0.0.0/8>2 10.0.0.0/9>3 10.0.0.0/32>5 10.128.0.0/9>4")
	drop(t, x, prefix(t, "10.0.0.0/9"), nil)
	holds(t, x, "0.0.0.0/0>1 10.0.0.0/8>2 10.0.0.0/32>5 10.128.0.0/9>4")
	finds(t, x, "10.0.0.0", "10.0.0.0/32>5")
	finds(t, x, "10.0.0.1", "10.0.0.0/8>2")
	drop(t, x, prefix(t, "10.0.0.0/9"), api.ErrNone)
	drop(t, x, prefix(t, "10.0.0.0/32"), nil)
	drop(t, x, prefix(t, "10.0.0.0/8"), nil)
	holds(t, x, "0.0.0.0/0>1 10.128.0.0/9>4")
	finds(t, x, "10.0.0.0", "0.0.0.0/0>1")
	drop(t, x, api.Prefix{}, nil)
	finds(t, x, "10.0.0.0", "")
	finds(t, x, "10.128.0.0", "10.128.0.0/9>4")
	drop(t, x, prefix(t, "10.128.0.0/9"), nil)
	holds(t, x, "")
	for _, s := range strings.Fields(all) {
		drop(t, x, prefix(t, s), api.ErrNone)
	}
	put(t, x, prefix(t, "10.0.0.0/9"), 6, nil)
	holds(t, x, "10.0.0.0/9>6")
}

func TestFind(t *testing.T) {
	x := filled(t, 9, "0.0.0.0/0 10.0.0.0/8 10.1.0.0/16 10.1.2.3/32 128.0.0.0/1 255.255.255.255/32")
	for addr, want := range map[string]string{
		"0.0.0.0":         "0.0.0.0/0>1",
		"9.255.255.255":   "0.0.0.0/0>1",
		"10.0.0.0":        "10.0.0.0/8>2",
		"10.0.255.255":    "10.0.0.0/8>2",
		"10.1.0.0":        "10.1.0.0/16>3",
		"10.1.2.2":        "10.1.0.0/16>3",
		"10.1.2.3":        "10.1.2.3/32>4",
		"10.1.2.4":        "10.1.0.0/16>3",
		"10.1.255.255":    "10.1.0.0/16>3",
		"10.2.0.0":        "10.0.0.0/8>2",
		"10.255.255.255":  "10.0.0.0/8>2",
		"11.0.0.0":        "0.0.0.0/0>1",
		"127.255.255.255": "0.0.0.0/0>1",
		"128.0.0.0":       "128.0.0.0/1>5",
		"255.255.255.254": "128.0.0.0/1>5",
		"255.255.255.255": "255.255.255.255/32>6",
	} {
		finds(t, x, addr, want)
	}
}

func TestFindTheEdges(t *testing.T) {
	x := filled(t, 9, "0.0.0.0/32 255.255.255.255/32")
	finds(t, x, "0.0.0.0", "0.0.0.0/32>1")
	finds(t, x, "0.0.0.1", "")
	finds(t, x, "255.255.255.254", "")
	finds(t, x, "255.255.255.255", "255.255.255.255/32>2")
	drop(t, x, prefix(t, "255.255.255.255/32"), nil)
	finds(t, x, "255.255.255.255", "")
	put(t, x, api.Prefix{}, 0, nil)
	finds(t, x, "0.0.0.0", "0.0.0.0/32>1")
	finds(t, x, "0.0.0.1", "0.0.0.0/0>0")
	finds(t, x, "255.255.255.255", "0.0.0.0/0>0")
	// No addresses: the prefix that has all of them has none of these.
	for _, a := range []int{-1, last + 1, -1 << 32, 1<<32 | 5, math.MinInt, math.MaxInt} {
		if p, hop, is := x.Find(a); p != (api.Prefix{}) || hop != 0 || is {
			t.Errorf("Find(%d) = %v, %d, %v", a, p, hop, is)
		}
	}
}

func TestAllRises(t *testing.T) {
	x := filled(t, 9, "255.255.255.255/32 10.0.0.0/32 10.0.0.0/8 0.0.0.0/1 10.0.0.0/9 10.128.0.0/9 128.0.0.0/1 0.0.0.0/0 0.0.0.0/32")
	holds(t, x, "0.0.0.0/0>8 0.0.0.0/1>4 0.0.0.0/32>9 10.0.0.0/8>3 10.0.0.0/9>5 10.0.0.0/32>2 10.128.0.0/9>6 128.0.0.0/1>7 255.255.255.255/32>1")
}

func TestSet(t *testing.T) {
	x := filled(t, 3, "10.0.0.0/8 11.0.0.0/8")
	for _, c := range []struct{ in, want string }{
		{"10.0.0.0/8 0.0.0.0/0", "0.0.0.0/0>2 10.0.0.0/8>1"},
		{"12.0.0.0/8", "12.0.0.0/8>1"},
		{"12.0.0.0/8 12.0.0.0/32 12.0.0.0/9", "12.0.0.0/8>1 12.0.0.0/9>3 12.0.0.0/32>2"},
		{"", ""},
		{"", ""},
		{"255.255.255.255/32", "255.255.255.255/32>1"},
	} {
		if err := x.Set(entries(t, c.in)); err != nil {
			t.Errorf("Set(%s): %v", c.in, err)
		}
		holds(t, x, c.want)
	}
	finds(t, x, "255.255.255.255", "255.255.255.255/32>1")
	finds(t, x, "12.0.0.0", "")
	// It is for as many as it was.
	put(t, x, prefix(t, "1.0.0.0/8"), 2, nil)
	put(t, x, prefix(t, "2.0.0.0/8"), 3, nil)
	put(t, x, prefix(t, "3.0.0.0/8"), 4, api.ErrFull)
}

func TestSetForNone(t *testing.T) {
	for _, most := range []int{0, -4} {
		x := fib.New(most)
		if err := x.Set(nil); err != nil {
			t.Error(err)
		}
		checkFault(t, "for none", x.Set(entries(t, "10.0.0.0/8")), 0, api.ErrFull)
		checkFault(t, "for none", x.Set([]fib.Entry{{To: api.Prefix{Len: 33}}}), 0, api.ErrBound)
		holds(t, x, "")
	}
}

func TestSetAsManyAsThereMayBe(t *testing.T) {
	var l []fib.Entry
	for i := range 61 {
		l = append(l, fib.Entry{To: api.Prefix{Addr: last - i, Len: 32}, Hop: i})
	}
	x := fib.New(math.MaxInt)
	if err := x.Set(l[:60]); err != nil || x.Count() != 60 {
		t.Errorf("%v, %d entries", err, x.Count())
	}
	checkFault(t, "61 in a table for 60", x.Set(l), 60, api.ErrFull)
	if x.Count() != 60 || x.All()[0] != l[59] {
		t.Errorf("%d entries, %v the first", x.Count(), x.All()[0])
	}
}

// checkFault: an *api.Fault at a place, which wraps just that error.
func checkFault(t *testing.T, name string, err error, at int, want error) {
	t.Helper()
	f, ok := err.(*api.Fault)
	if !ok || f.At != at || f.Err != want {
		t.Errorf("%s: %#v, want %v at %d", name, err, want, at)
	}
}

// The first entry that is wrong is told, and of what is wrong with it the first that the chapter names; nothing changes.
func TestSetErrors(t *testing.T) {
	bound, shape := fib.Entry{To: api.Prefix{Len: 33}}, fib.Entry{To: api.Prefix{Addr: 1}}
	one, two, three, four := fib.Entry{To: api.Prefix{Addr: 1 << 24, Len: 8}}, fib.Entry{To: api.Prefix{Addr: 2 << 24, Len: 8}}, fib.Entry{To: api.Prefix{Addr: 3 << 24, Len: 8}}, fib.Entry{To: api.Prefix{Len: 0}}
	again := fib.Entry{To: one.To, Hop: 5}
	for name, c := range map[string]struct {
		l    []fib.Entry
		at   int
		want error
	}{
		"bound":                         {[]fib.Entry{bound}, 0, api.ErrBound},
		"shape":                         {[]fib.Entry{one, shape}, 1, api.ErrShape},
		"bound ahead of shape":          {[]fib.Entry{one, bound, shape}, 1, api.ErrBound},
		"shape ahead of bound":          {[]fib.Entry{one, shape, bound}, 1, api.ErrShape},
		"there already":                 {[]fib.Entry{one, one}, 1, api.ErrExist},
		"there already, another hop":    {[]fib.Entry{one, two, again}, 2, api.ErrExist},
		"there already, ahead of wrong": {[]fib.Entry{one, again, shape}, 1, api.ErrExist},
		"wrong, ahead of there already": {[]fib.Entry{one, shape, again}, 1, api.ErrShape},
		"wrong twice":                   {[]fib.Entry{shape, shape}, 0, api.ErrShape},
		"too many":                      {[]fib.Entry{one, two, three, four}, 3, api.ErrFull},
		"too many, there already":       {[]fib.Entry{one, two, three, again}, 3, api.ErrExist},
		"too many, wrong":               {[]fib.Entry{one, two, three, shape}, 3, api.ErrShape},
		"too many, then there already":  {[]fib.Entry{one, two, three, four, one}, 3, api.ErrFull},
		"too many, then wrong":          {[]fib.Entry{one, two, three, four, bound}, 3, api.ErrFull},
	} {
		x := filled(t, 3, "10.0.0.0/8 1.0.0.0/8")
		checkFault(t, name, x.Set(c.l), c.at, c.want)
		holds(t, x, "1.0.0.0/8>2 10.0.0.0/8>1")
		finds(t, x, "1.2.3.4", "1.0.0.0/8>2")
		finds(t, x, "2.0.0.0", "")
		put(t, x, prefix(t, "4.0.0.0/8"), 3, nil)
		put(t, x, prefix(t, "5.0.0.0/8"), 3, api.ErrFull)
	}
}

// model of a table: no tree.
type model map[api.Prefix]int

func (m model) all() []fib.Entry {
	var l []fib.Entry
	for _, p := range slices.SortedFunc(maps.Keys(m), func(p, q api.Prefix) int {
		if ip.Less(p, q) {
			return -1
		}
		return 1
	}) {
		l = append(l, fib.Entry{To: p, Hop: m[p]})
	}
	return l
}

func (m model) find(a int) (fib.Entry, bool) {
	best, is := fib.Entry{}, false
	for p, hop := range m {
		if ip.Has(p, a) && (!is || p.Len > best.To.Len) {
			best, is = fib.Entry{To: p, Hop: hop}, true
		}
	}
	return best, is
}

func (m model) put(p api.Prefix, hop, most int) error {
	if err := ip.Check(p); err != nil {
		return err
	}
	if _, is := m[p]; !is && len(m) >= most {
		return api.ErrFull
	}
	m[p] = hop
	return nil
}

func (m model) drop(p api.Prefix) error {
	if err := ip.Check(p); err != nil {
		return err
	}
	if _, is := m[p]; !is {
		return api.ErrNone
	}
	delete(m, p)
	return nil
}

// somePrefix: few bits make it likely that one is in another one, or there already; some are wrong.
func somePrefix(r *rand.Rand) api.Prefix {
	free := r.Intn(6)
	p := api.Prefix{Addr: []int{0, 10 << 24, 1 << 31, last &^ 31}[r.Intn(4)] + r.Intn(1<<free), Len: 32 - r.Intn(free+1)}
	switch r.Intn(12) {
	case 0:
		p = api.Prefix{Addr: r.Intn(last + 1), Len: r.Intn(33)}
	case 1:
		return api.Prefix{Addr: p.Addr + r.Intn(2), Len: 28 + r.Intn(6)}
	}
	return api.Prefix{Addr: p.Addr >> (32 - p.Len) << (32 - p.Len), Len: p.Len}
}

func sameAsModel(t *testing.T, x *fib.Table, m model, r *rand.Rand) {
	t.Helper()
	if got := x.All(); !slices.Equal(got, m.all()) || x.Count() != len(m) {
		t.Fatalf("%d entries: %s, want %s", x.Count(), told(got), told(m.all()))
	}
	for range 8 {
		a := somePrefix(r).Addr
		p, hop, is := x.Find(a)
		if want, isWanted := m.find(a); (fib.Entry{To: p, Hop: hop}) != want || is != isWanted {
			t.Fatalf("Find(%d) in %s: %v, %d, %v", a, told(m.all()), p, hop, is)
		}
		checkLongest(t, x, a)
	}
}

// checkLongest: P32, by what the table itself tells.
func checkLongest(t *testing.T, x *fib.Table, a int) {
	t.Helper()
	p, hop, is := x.Find(a)
	there := false
	for _, e := range x.All() {
		there = there || is && e == fib.Entry{To: p, Hop: hop}
		if ip.Has(e.To, a) && (!is || e.To.Len > p.Len) {
			t.Fatalf("Find(%d) = %v, %v, but there is %v", a, p, is, e)
		}
	}
	if is && (!there || !ip.Has(p, a)) {
		t.Fatalf("Find(%d) = %v, %d in %s", a, p, hop, told(x.All()))
	}
}

func TestAgainstModel(t *testing.T) {
	r := rand.New(rand.NewSource(3))
	for range 300 {
		most := r.Intn(12)
		x, m := fib.New(most), model{}
		for range 150 {
			p, hop := somePrefix(r), r.Intn(9)-4
			switch r.Intn(8) {
			case 0, 1, 2, 3:
				put(t, x, p, hop, m.put(p, hop, most))
			case 4:
				setBoth(t, x, &m, r, most)
			default:
				if l := m.all(); len(l) > 0 && r.Intn(2) == 0 {
					p = l[r.Intn(len(l))].To
				}
				drop(t, x, p, m.drop(p))
			}
			sameAsModel(t, x, m, r)
		}
	}
}

// setBoth: what is told of an entry in l comes from the entries ahead of it alone.
func setBoth(t *testing.T, x *fib.Table, m *model, r *rand.Rand, most int) {
	t.Helper()
	l := make([]fib.Entry, r.Intn(most+3))
	for i := range l {
		l[i] = fib.Entry{To: somePrefix(r), Hop: i}
	}
	fresh := model{}
	err := x.Set(l)
	for i, e := range l {
		_, is := fresh[e.To]
		if want := fresh.put(e.To, e.Hop, most); want != nil {
			checkFault(t, told(l), err, i, want)
			return
		} else if is {
			checkFault(t, told(l), err, i, api.ErrExist)
			return
		}
	}
	if err != nil {
		t.Fatalf("Set(%s): %v", told(l), err)
	}
	*m = fresh
}

// P32, on every table of the seven prefixes of four addresses at a place, and of the one that has all.
func TestAlwaysTheLongest(t *testing.T) {
	for _, base := range []int{0, 10 << 24, last - 3} {
		whole := []api.Prefix{{}, {Addr: base, Len: 30}, {Addr: base, Len: 31}, {Addr: base + 2, Len: 31}}
		for i := range 4 {
			whole = append(whole, api.Prefix{Addr: base + i, Len: 32})
		}
		for members := range 1 << len(whole) {
			x := fib.New(8)
			for i, p := range whole {
				if members>>i&1 == 1 {
					put(t, x, p, i, nil)
				}
			}
			for a := base - 1; a <= base+4; a++ {
				checkLongest(t, x, a)
			}
		}
	}
}

// An entry of every Len along one address, and none along another one.
func TestEveryLen(t *testing.T) {
	for _, a := range []int{0, 0x0a010203, 1 << 31, last} {
		x := fib.New(60)
		for n := 32; n >= 0; n-- {
			p, err := ip.Cut(a, n)
			if err != nil {
				t.Fatal(err)
			}
			put(t, x, p, n, nil)
		}
		for n := range 33 {
			// The address that parts from a at bit n has n bits of it.
			other := a
			if n < 32 {
				other ^= 1 << (31 - n)
			}
			if p, hop, is := x.Find(other); hop != n || p.Len != n || !is {
				t.Errorf("%d: %v, %d, %v, want %d bits", other, p, hop, is, n)
			}
		}
		for n := 32; n >= 0; n-- {
			if _, hop, is := x.Find(a); hop != n || !is {
				t.Errorf("%d: %d, %v, want %d", a, hop, is, n)
			}
			p, _ := ip.Cut(a, n)
			drop(t, x, p, nil)
		}
		holds(t, x, "")
	}
}
