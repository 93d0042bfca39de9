package best_test

import (
	"fmt"

	"herepath/api"
	"herepath/attr"
	"herepath/best"
	"herepath/ip"
)

func Example() {
	to, _ := ip.Read("10.1.0.0/16")
	l := []api.Route{}
	for from, text := range []string{2: "2-1 100 0 0 -", 3: "3-2-1 200 0 0 -", 4: "4-1 100 0 0 -"} {
		if a, err := attr.Read(text); err == nil {
			l = append(l, api.Route{To: to, Attr: a, From: from})
		}
	}
	fmt.Println(best.Better(l[0], l[2]), best.Better(l[0], l[1]))
	for _, r := range best.Sort(l) {
		fmt.Println(r.From, attr.Text(r.Attr))
	}
	r, is := best.Best(l)
	fmt.Println(r.From, is)
	_, is = best.Best(nil)
	fmt.Println(is)
	// Output:
	// true false
	// 3 3-2-1 200 0 0 -
	// 2 2-1 100 0 0 -
	// 4 4-1 100 0 0 -
	// 3 true
	// false
}
