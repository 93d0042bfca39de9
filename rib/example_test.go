package rib_test

import (
	"fmt"

	"herepath/api"
	"herepath/attr"
	"herepath/ip"
	"herepath/rib"
)

func Example() {
	r, _ := rib.New(5)
	p, _ := ip.Read("10.1.0.0/16")
	r.Learn(4, p, api.Attr{Path: []int{4, 1}, Pref: 100})
	r.Learn(2, p, api.Attr{Path: []int{2, 1}, Pref: 100})
	way, is := r.Best(p)
	fmt.Println(way.From, attr.Text(way.Attr), is)
	fmt.Println(r.Learn(2, p, api.Attr{Path: []int{2, 5, 1}}), len(r.Told(2)))
	fmt.Println(r.Down(4), len(r.All()))
	// Output:
	// 2 2-1 100 0 0 - true
	// herepath: loop 0
	// 1 0
}
