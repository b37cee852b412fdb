package tree

import (
	"math"
	"testing"

	"tumble/api"
	"tumble/box"
)

// leastLeaves is the least number of kept boxes of a tree so high: one of two nodes beside one another is at most one lower.
func leastLeaves(height int) int {
	if height < 2 {
		return height
	}
	return leastLeaves(height-1) + leastLeaves(height-2)
}

// The rule of nodes makes the bound of P15.5: a tree that is higher has more boxes than any with so many binary digits.
func TestP15_5RuleMakesBound(t *testing.T) {
	for digits := 1; digits <= 15; digits++ {
		if most := 1<<digits - 1; leastLeaves(2*digits+2) <= most {
			t.Errorf("a tree of %d boxes may be %d high", most, 2*digits+2)
		}
	}
}

// isRight holds a node, and all below it, to what is said of nodes, and tells how many kept boxes are there.
func isRight(t *testing.T, x *Tree, n *node) int {
	t.Helper()
	if n.isKept() {
		if n.below[1] != nil || n.height != 1 || x.kept[n.last] != n {
			t.Fatalf("a kept box is %+v", *n)
		}
		return 1
	}
	a, b := n.below[0], n.below[1]
	if a.up != n || b.up != n {
		t.Fatalf("what is below %+v hangs elsewhere", *n)
	}
	if n.height != 1+max(a.height, b.height) || max(a.height, b.height)-min(a.height, b.height) > 1 {
		t.Fatalf("%d high, over %d and %d", n.height, a.height, b.height)
	}
	if n.box != box.Join(a.box, b.box) || n.last != max(a.last, b.last) {
		t.Fatalf("%+v is over %+v and %+v", *n, *a, *b)
	}
	return isRight(t, x, a) + isRight(t, x, b)
}

func isAllRight(t *testing.T, x *Tree) {
	t.Helper()
	if (x.whole == nil) != (x.length == 0) {
		t.Fatalf("%d boxes below %p", x.length, x.whole)
	}
	if x.whole != nil && (x.whole.up != nil || isRight(t, x, x.whole) != x.length) {
		t.Fatalf("not all of %d boxes hang below the node of all", x.length)
	}
}

func TestP15_5Rule(t *testing.T) {
	seed := uint64(15)
	next := func(n int) int {
		seed = seed*6364136223846793005 + 1442695040888963407
		return int(seed >> 33 % uint64(n))
	}
	makers := []func() api.Box{
		func() api.Box { return api.Box{} },
		func() api.Box {
			at := api.Vec{X: float64(next(1000)), Y: float64(next(1000))}
			return box.Grow(api.Box{Low: at, High: at}, float64(next(20)))
		},
		func() api.Box {
			at := math.Ldexp(1, next(2000)-1000)
			return api.Box{Low: api.Vec{X: -at, Y: at}, High: api.Vec{X: at, Y: at}}
		},
	}
	for round := range 60 {
		x, _ := New(0)
		one := makers[round%len(makers)]
		puts := 3 + next(4)
		for call := range 600 {
			id := next(len(x.kept) + 1)
			switch kind := next(8); {
			case call < 450 && kind < puts:
				x.Put(one())
			case kind%2 == 0:
				x.Take(id)
			default:
				x.Move(id, one())
			}
			isAllRight(t, x)
		}
		// From one end, so that one side of the tree gets ever lower.
		for id := range x.kept {
			x.Take(id)
			isAllRight(t, x)
		}
	}
}
