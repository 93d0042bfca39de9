package wire_test

import (
	"fmt"

	"herepath/api"
	"herepath/wire"
)

func Example() {
	m := api.Msg{
		Kind:  "news",
		Drops: []api.Prefix{{Addr: 10 << 24, Len: 8}},
		Adds:  []api.Route{{To: api.Prefix{Addr: 11 << 24, Len: 8}, Attr: api.Attr{Path: []int{2, 1}, Pref: 100}}},
	}
	s, _ := wire.Text(m)
	fmt.Print(s)
	// A route that is none is lost instead.
	m, _ = wire.Read("news\n+ 11.0.0.0/8 2-1 100 0 0 5,5\n")
	s, _ = wire.Text(m)
	fmt.Print(s)
	_, err := wire.Read("news\n- 10.0.0.0/8\n- x\n")
	fmt.Println(err, err.(*api.Fault).At)
	// Output:
	// news
	// - 10.0.0.0/8
	// + 11.0.0.0/8 2-1 100 0 0 -
	// news
	// - 11.0.0.0/8
	// herepath: text 2
}
