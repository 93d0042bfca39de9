package fib_test

import (
	"fmt"

	"herepath/fib"
	"herepath/ip"
)

func Example() {
	wide, _ := ip.Read("10.0.0.0/8")
	narrow, _ := ip.Read("10.1.0.0/16")
	a, _ := ip.ReadAddr("10.1.7.9")
	x := fib.New(2)
	fmt.Println(x.Put(wide, 1), x.Put(narrow, 2))
	p, hop, is := x.Find(a)
	fmt.Println(ip.Text(p), hop, is)
	fmt.Println(x.Drop(narrow), told(x.All()), x.Count())
	p, hop, is = x.Find(a)
	fmt.Println(ip.Text(p), hop, is)
	// Output:
	// <nil> <nil>
	// 10.1.0.0/16 2 true
	// <nil> 10.0.0.0/8>1 1
	// 10.0.0.0/8 1 true
}
