package ip_test

import (
	"fmt"

	"herepath/ip"
)

func Example() {
	p, _ := ip.Read("10.1.0.0/16")
	a, _ := ip.ReadAddr("10.1.7.9")
	x, y, _ := ip.Halves(p)
	c, _ := ip.Cut(a, 24)
	_, err := ip.Read("10.1.0.0/8")
	fmt.Println(ip.Has(p, a), ip.Size(p))
	fmt.Println(ip.Text(x), ip.Text(y), ip.Text(c))
	fmt.Println(err)
	// Output:
	// true 65536
	// 10.1.0.0/17 10.1.128.0/17 10.1.7.0/24
	// herepath: shape
}
