package rule_test

import (
	"fmt"

	"herepath/api"
	"herepath/attr"
	"herepath/ip"
	"herepath/rule"
)

func Example() {
	ten, _ := ip.Read("10.0.0.0/8")
	l := []api.Rule{
		{Within: ten, Hi: 32, Tag: 7, Deny: true, Pref: -1, Med: -1},
		{Within: ten, Lo: 9, Hi: 24, Pref: 200, Med: -1, Add: 5, Lead: 2},
	}
	a, _ := attr.Read("2-1 100 30 0 -")
	to, _ := ip.Read("10.1.0.0/16")
	fmt.Println(rule.Fits(l[0], to, a), rule.Fits(l[1], to, a))
	b, is, err := rule.Apply(l, 3, to, a)
	fmt.Println(attr.Text(b), is, err)
	a, _ = attr.Tag(a, 7)
	_, is, err = rule.Apply(l, 3, to, a) // the first rule denies it
	fmt.Println(is, err)
	_, is, err = rule.Apply(l, 3, ten, attr.Own()) // none fits
	fmt.Println(is, err)
	l[1].Lead = 13
	err = rule.Check(l)
	fmt.Println(err, err.(*api.Fault).At)
	// Output:
	// false true
	// 3-3-2-1 200 30 0 5 true <nil>
	// false <nil>
	// false <nil>
	// herepath: bound 1
}
