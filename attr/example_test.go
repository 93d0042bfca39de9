package attr_test

import (
	"fmt"

	"herepath/api"
	"herepath/attr"
)

func Example() {
	a := attr.Own()
	fmt.Println(attr.Text(a))
	a, _ = attr.Lead(a, 1, 1)
	a, _ = attr.Lead(a, 2, 2)
	a, _ = attr.Tag(a, 50)
	a, _ = attr.Tag(a, 7)
	fmt.Println(attr.Text(a), attr.Through(a, 1))
	b, _ := attr.Read("2-2-1 100 0 0 7,50")
	fmt.Println(attr.Same(a, b))
	_, err := attr.Read("2-2-1 100 0 0 50,7")
	fmt.Println(err)
	fmt.Println(attr.Check(api.Attr{Path: []int{1, 0}}).(*api.Fault).At)
	// Output:
	// - 100 0 0 -
	// 2-2-1 100 0 0 7,50 true
	// true
	// herepath: order
	// 1
}
