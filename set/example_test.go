package set_test

import (
	"fmt"

	"herepath/api"
	"herepath/ip"
	"herepath/set"
)

func Example() {
	x, _ := ip.Read("10.0.0.128/25")
	y, _ := ip.Read("10.0.0.0/25")
	l, _ := set.Norm([]api.Prefix{x, y})
	n, _ := set.Count(l)
	fmt.Println(told(l), n)
	l, _ = set.Not(l, []api.Prefix{y})
	fmt.Println(told(l), set.Has(l, y.Addr))
	_, err := set.Norm([]api.Prefix{x, {Len: 33}})
	fmt.Println(err)
	// Output:
	// 10.0.0.0/24 256
	// 10.0.0.128/25 false
	// herepath: bound
}
