package tree

import (
	"tumble/api"
	"tumble/box"
)

// node is a kept box, or the box of two nodes below it. Of two beside one another neither is ever more than one higher than the other: that bounds the height, whatever is put in and taken out, and wherever it lies.
type node struct {
	box    api.Box
	up     *node    // nil of the node of all
	below  [2]*node // none of a kept box
	height int      // how many nodes lie in one another at most, itself among them
	last   int      // the greatest number of the kept boxes in it: of a kept one its own
}

func (n *node) isKept() bool { return n.below[0] == nil }

// hold makes a node that of two others. Noughts too are the same in whatever order boxes are joined, so that a node's box does not tell how the tree came to be.
func (n *node) hold(a, b *node) {
	n.below = [2]*node{a, b}
	n.box = box.Join(a.box, b.box)
	n.height = 1 + max(a.height, b.height)
	n.last = max(a.last, b.last)
	a.up, b.up = n, n
}

// quarter is one of box.Size: the whole of it would overflow of the greatest boxes, which then could not be told apart.
func quarter(b api.Box) float64 {
	wide := float64(b.High.X*0.25) - float64(b.Low.X*0.25)
	high := float64(b.High.Y*0.25) - float64(b.Low.Y*0.25)
	return wide + high
}

// growth tells how much greater a node's box would be with another one in it.
func growth(n *node, b api.Box) float64 { return quarter(box.Join(n.box, b)) - quarter(n.box) }

// beside is the kept box next to which a new one is hung: from above always the way on which boxes grow less.
func (t *Tree) beside(b api.Box) *node {
	n := t.whole
	for !n.isKept() {
		first, second := n.below[0], n.below[1]
		n = first
		if growth(second, b) < growth(first, b) {
			n = second
		}
	}
	return n
}

// replace puts a node where another one hangs.
func (t *Tree) replace(old, other *node) {
	up := old.up
	other.up = up
	switch {
	case up == nil:
		t.whole = other
	case up.below[0] == old:
		up.below[0] = other
	default:
		up.below[1] = other
	}
}

// hang puts a kept box in.
func (t *Tree) hang(n *node) {
	if t.whole == nil {
		t.whole = n
		return
	}
	next, both := t.beside(n.box), &node{}
	t.replace(next, both)
	both.hold(next, n)
	t.mend(both)
}

// unhang takes a kept box out: what hung beside it goes up to where both hung.
func (t *Tree) unhang(n *node) {
	both := n.up
	if both == nil {
		t.whole = nil
		return
	}
	other := both.below[0]
	if other == n {
		other = both.below[1]
	}
	t.replace(both, other)
	t.mend(other.up)
}

// mend puts right what a change below a node has spoilt, from it up to the node of all.
func (t *Tree) mend(n *node) {
	for n != nil {
		n = t.level(n).up
	}
}

// level makes a node's box and height anew. If one of the two below it is two higher than the other, that one takes the node's place, keeps the higher one of its own two, and the node gets the lower one: the same is below them, but not so deep. It tells which node hangs there now.
func (t *Tree) level(n *node) *node {
	low, high := n.below[0], n.below[1]
	if low.height > high.height {
		low, high = high, low
	}
	if high.height-low.height < 2 {
		n.hold(low, high)
		return n
	}
	stays, goes := high.below[0], high.below[1]
	if stays.height < goes.height || stays.height == goes.height && growth(low, stays.box) < growth(low, goes.box) {
		stays, goes = goes, stays
	}
	t.replace(n, high)
	n.hold(goes, low)
	high.hold(stays, n)
	return high
}
