package fib

import (
	"math/rand"
	"testing"

	"herepath/api"
)

// leanAndCounted: every node has an entry, or leads to one; no more is kept than is needed.
func leanAndCounted(t *testing.T, n *node) int {
	t.Helper()
	if n == nil {
		return 0
	}
	sum := leanAndCounted(t, n.kids[0]) + leanAndCounted(t, n.kids[1])
	if n.is {
		sum++
	} else if n.way != (Entry{}) {
		t.Fatalf("%v is kept, and is not there", n.way)
	}
	if sum == 0 {
		t.Fatal("a node leads to nothing")
	}
	return sum
}

func TestTreeKeepsNoMoreThanItNeeds(t *testing.T) {
	r := rand.New(rand.NewSource(1))
	x := New(6)
	for range 5000 {
		n := r.Intn(33)
		p := api.Prefix{Addr: r.Intn(8) << 29 >> (32 - n) << (32 - n), Len: n}
		if r.Intn(2) == 0 {
			x.Put(p, n)
		} else {
			x.Drop(p)
		}
		if got := leanAndCounted(t, x.root); got != x.Count() {
			t.Fatalf("%d entries in the tree, Count %d", got, x.Count())
		}
	}
	for _, e := range x.All() {
		x.Drop(e.To)
	}
	if x.root != nil {
		t.Error("a tree without entries has a node")
	}
}
