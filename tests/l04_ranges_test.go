package tests

import (
	"fmt"
	"math"
	"testing"

	"loop.example/g01193/impl"
)

func TestSizeRange(t *testing.T) {
	for _, c := range []struct{ r, want pair }{
		{pair{1, 2}, pair{1, 2}}, {pair{2, 2}, pair{2, 2}}, {pair{num(1), 7}, pair{num(1), 7}}, {pair{-2, -1}, pair{1, 2}}, {pair{-2, -2}, pair{2, 2}}, {pair{-7, num(0x80000001)}, pair{num(1), 7}},
		{pair{-1, 2}, pair{0, 2}}, {pair{-3, 2}, pair{0, 3}}, {pair{-2, 2}, pair{0, 2}}, {pair{0, 2}, pair{0, 2}}, {pair{minusZero, 2}, pair{0, 2}}, {pair{-2, 0}, pair{0, 2}}, {pair{-2, minusZero}, pair{0, 2}},
		// The greater one of two zeros is the first one, the opposite of Low.
		{pair{0, 0}, pair{0, minusZero}}, {pair{0, minusZero}, pair{0, minusZero}}, {pair{minusZero, 0}, pair{0, 0}}, {pair{minusZero, minusZero}, pair{0, 0}},
		{pair{-infinite, infinite}, pair{0, infinite}}, {pair{infinite, infinite}, pair{infinite, infinite}}, {pair{-infinite, -infinite}, pair{infinite, infinite}}, {pair{-infinite, -1}, pair{1, infinite}},
		{pair{1, infinite}, pair{1, infinite}}, {pair{-infinite, 5}, pair{0, infinite}}, {pair{-5, infinite}, pair{0, infinite}}, {pair{-infinite, 0}, pair{0, infinite}}, {pair{-greatest, num(1)}, pair{0, greatest}},
		{pair{notNumber, notNumber}, pair{0, notNumber}}, {pair{notNumber, 1}, pair{0, notNumber}}, {pair{notNumber, -1}, pair{1, notNumber}}, {pair{1, notNumber}, pair{1, notNumber}}, {pair{-1, notNumber}, pair{0, 1}}, {pair{0, notNumber}, pair{0, minusZero}},
		{pair{infinite, notNumber}, pair{infinite, notNumber}}, {pair{-infinite, notNumber}, pair{0, infinite}}, {pair{notNumber, infinite}, pair{0, notNumber}},
		// Numbers that are not in order are taken as they are.
		{pair{3, -2}, pair{3, -2}}, {pair{3, 2}, pair{3, 2}}, {pair{-2, -3}, pair{3, 2}}, {pair{0, -2}, pair{2, minusZero}},
	} {
		sameRange(t, fmt.Sprint("SizeRange ", c.r), impl.SizeRange(impl.Range{Low: c.r[0], High: c.r[1]}), c.want)
	}
}

func TestLongRange(t *testing.T) {
	for _, c := range []struct{ x, y, z, want pair }{
		{pair{-3, 3}, pair{4, 4}, pair{0, 0}, pair{4, 5}}, {pair{1, 2}, pair{2, 3}, pair{2, 6}, pair{3, 7}}, {pair{-2, -1}, pair{-3, -2}, pair{-6, -2}, pair{3, 7}}, {pair{-1, 2}, pair{-3, 2}, pair{-6, 6}, pair{0, 7}},
		{pair{0, 0}, pair{minusZero, 0}, pair{0, minusZero}, pair{0, 0}}, {pair{3, 3}, pair{-4, 0}, pair{0, 0}, pair{3, 5}}, {pair{5, 5}, pair{0, 0}, pair{0, 0}, pair{5, 5}}, {pair{0, 0}, pair{0, 0}, pair{-8, -7}, pair{7, 8}},
		{pair{-infinite, infinite}, pair{3, 3}, pair{4, 4}, pair{5, infinite}}, {pair{-infinite, -infinite}, pair{0, 1}, pair{0, 1}, pair{infinite, infinite}}, {pair{0, 1e20}, pair{0, 0}, pair{1, 1}, pair{1, infinite}}, {pair{1e20, 1e20}, pair{0, 0}, pair{0, 0}, pair{infinite, infinite}},
		{pair{notNumber, notNumber}, pair{3, 3}, pair{4, 4}, pair{5, notNumber}}, {pair{3, 3}, pair{4, notNumber}, pair{0, 0}, pair{5, notNumber}}, {pair{3, 3}, pair{4, 4}, pair{notNumber, -12}, pair{13, notNumber}}, {pair{1e-30, 1e-30}, pair{0, 0}, pair{0, 0}, pair{0, 0}},
	} {
		got := impl.LongRange(impl.Range{Low: c.x[0], High: c.x[1]}, impl.Range{Low: c.y[0], High: c.y[1]}, impl.Range{Low: c.z[0], High: c.z[1]})
		sameRange(t, fmt.Sprint("LongRange ", c.x, c.y, c.z), got, c.want)
	}
}

func all() pair { return pair{-infinite, infinite} }

// rangesAre checks the ranges of all nodes, and what is told of the last one.
func rangesAre(t *testing.T, what string, s impl.Shape, b impl.Box, want ...pair) {
	t.Helper()
	what = fmt.Sprint(what, ", ", s, " in ", b)
	got, ok := impl.RangesIn(s, b)
	equal(t, what+", RangesIn succeeds", ok, true)
	equal(t, what+", length", len(got), len(want))
	for i := range min(len(got), len(want)) {
		sameRange(t, fmt.Sprint(what, ", ", i), got[i], want[i])
	}
	rangeIs(t, what, s, b, want[len(want)-1])
}

func rangeIs(t *testing.T, what string, s impl.Shape, b impl.Box, want pair) {
	t.Helper()
	got, ok := impl.RangeIn(s, b)
	equal(t, fmt.Sprint(what, ", RangeIn of ", s, " in ", b, " succeeds"), ok, true)
	sameRange(t, fmt.Sprint(what, ", RangeIn of ", s, " in ", b), got, want)
}

func TestRangesOfLeaves(t *testing.T) {
	block := node(impl.NodeBox, 0, 0, 1, 2, 3)
	tube := node(impl.NodeTube, 0, 0, 2, 1)
	ring := node(impl.NodeRing, 0, 0, 3, 1)
	for _, c := range []struct {
		leaf impl.Node
		b    impl.Box
		want pair
	}{
		{ball(1), box(vec(1, 0, 0), vec(2, 0, 0)), pair{0, 1}}, {ball(1), box(vec(-3, -4, 0), vec(3, 4, 0)), pair{-1, 4}}, {ball(1), box(vec(3, 4, 0), vec(6, 8, 0)), pair{4, 9}},
		{ball(1), box(vec(-6, 0, -8), vec(-3, 0, -4)), pair{4, 9}}, {ball(1), box(vec(-3, 4, 0), vec(6, 8, 0)), pair{3, 9}}, {ball(1), box(vec(0, 3, -8), vec(0, 6, 4)), pair{2, 9}},
		{ball(1), point(0, 0, 0), pair{-1, -1}}, {ball(1), point(0, -3, 4), pair{4, 4}}, {ball(0), cube(minusZero, 0), pair{0, 0}}, {ball(1), cube(0, minusZero), pair{-1, -1}},
		{ball(1), onAxis(0, 0, greatest), pair{-1, infinite}}, {ball(1), cube(1e20, 1e20), pair{infinite, infinite}}, {ball(greatest), onAxis(1, 1e20, 1e20), pair{infinite, infinite}},
		{block, box(vec(0, 0, 0), vec(4, 0, 0)), pair{-1, 3}}, {block, box(vec(-4, -6, -3), vec(-1, 2, 0)), pair{0, 5}}, {block, box(vec(2, 3, 7), vec(4, 6, 15)), pair{quotient(float32(math.Sqrt(18)), 1), 13}},
		{block, box(vec(-0.5, 0.5, -1), vec(0.25, 1.75, 1)), pair{-1, -0.25}}, {block, point(-4, 6, 0), pair{5, 5}}, {block, cube(minusZero, 0), pair{-1, -1}}, {node(impl.NodeBox, 0, 0, 0, 0, 0), cube(0, minusZero), pair{0, 0}},
		{tube, box(vec(-4, -3, 0), vec(0, 5, 0)), pair{-1, 4}}, {tube, box(vec(4, 1, 0), vec(4, 5, 0)), pair{3, 4}}, {tube, box(vec(0, 5, 4), vec(0, 6, 7.5)), pair{4, 7.5}}, {tube, box(vec(4, -4, 0), vec(7.5, -3, 0)), pair{4, 7.5}},
		{tube, box(vec(2, 0.5, 0), vec(3, 1.5, 0)), pair{1, 2}}, {tube, box(vec(0, -3, -4), vec(0, 1, -4)), pair{3, 4}}, {tube, point(0, 0, 0), pair{-1, -1}}, {tube, point(3, 6, 0), pair{4, 4}}, {node(impl.NodeTube, 0, 0, 0, 0), cube(0, 0), pair{0, 0}},
		{ring, box(vec(0, 0, 0), vec(3, 0, 0)), pair{-1, 2}}, {ring, box(vec(6, 4, 0), vec(8, 12, 0)), pair{4, 12}}, {ring, box(vec(0, -12, -8), vec(0, -4, -6)), pair{4, 12}}, {ring, box(vec(0, 0, -1), vec(0, 0, 0)), pair{1, 2}},
		{ring, box(vec(-6, -4, 0), vec(4, 0, 0)), pair{-1, 4}}, {ring, point(3, 0, 0), pair{-1, -1}}, {ring, point(0, 4, minusZero), pair{4, 4}}, {ring, onAxis(2, 3, greatest), pair{-1, infinite}},
		{plane(0, 2, 0, 1), onAxis(1, -1, 3), pair{-3, 5}}, {plane(0, -2, 0, 1), onAxis(1, -1, 3), pair{-7, 1}}, {plane(0, 2, 0, 1), onAxis(1, 3, 4), pair{5, 7}}, {plane(0, -2, 0, 1), onAxis(1, -4, -3), pair{5, 7}},
		{plane(1, -1, 2, 0.5), box(vec(1, 3, -1), vec(2, 5, 4)), pair{-6.5, 6.5}}, {plane(0, 0, 0, -2), cube(-7, 9), pair{2, 2}}, {plane(0, 0, 0, 3), point(1, -2, 0), pair{-3, -3}},
		{plane(1, 1, 1, 0), cube(minusZero, minusZero), pair{minusZero, minusZero}}, {plane(-1, -1, -1, 0), cube(0, 0), pair{minusZero, minusZero}}, {plane(1, 1, 1, minusZero), cube(minusZero, minusZero), pair{0, 0}},
		// Of two products that are zeros, the first one is both the lesser and the greater one.
		{plane(1, 1, 1, 0), cube(minusZero, 0), pair{minusZero, minusZero}}, {plane(1, 1, 1, 0), cube(0, minusZero), pair{0, 0}}, {plane(-1, -1, -1, 0), cube(0, minusZero), pair{minusZero, minusZero}},
		{plane(0, 0, 0, 0), cube(-1, 1), pair{minusZero, minusZero}}, {plane(minusZero, minusZero, minusZero, 0), cube(-1, 1), pair{0, 0}}, {plane(num(1), num(1), num(1), 0), cube(-0.25, 0.25), pair{minusZero, minusZero}},
		{plane(2, 0, 0, 0), onAxis(0, 0, greatest), pair{0, infinite}}, {plane(-2, 0, 0, 0), onAxis(0, greatest, greatest), pair{-infinite, -infinite}}, {plane(2, -2, 0, 0), cube(0, greatest), all()},
		// Both ends are not-a-numbers, or only one of them is.
		{plane(2, 2, 0, 0), box(vec(-greatest, greatest, 0), vec(-greatest, greatest, 0)), all()}, {plane(2, 2, 0, 0), box(vec(-greatest, greatest, 0), vec(0, greatest, 0)), all()}, {plane(2, 0, 2, 0), box(vec(greatest, 0, -greatest), vec(greatest, 0, 0)), all()},
		{plane(-2, 2, 0, 0), box(vec(greatest, 0, 0), vec(greatest, greatest, 0)), all()}, {plane(greatest, 0, 0, -greatest), onAxis(0, 1, 1), pair{infinite, infinite}},
	} {
		rangesAre(t, "a leaf", shape(c.leaf), c.b, c.want)
	}
}

// pairOf returns two planes whose ranges in a box are told, below a node, and this box.
func pairOf(kind int64, a, b pair, numbers ...float32) (impl.Shape, impl.Box) {
	return shape(probe(0), probe(1), node(kind, 0, 1, numbers...)), box(vec(a[0], b[0], minusZero), vec(a[1], b[1], minusZero))
}

// Which child stays where a shape is simplified.
const (
	staysBoth = iota
	staysA
	staysB
)

// simplifiesTo checks which child of pairOf stays.
func simplifiesTo(t *testing.T, s impl.Shape, b impl.Box, stays int) {
	t.Helper()
	want := [][]impl.Node{s.Nodes, s.Nodes[:1], s.Nodes[1:2]}[stays]
	got, ok := impl.SimplifyIn(s, b)
	makes(t, fmt.Sprint("SimplifyIn of ", s, " in ", b), got, ok, want...)
}

func TestRangesOfPairs(t *testing.T) {
	up, down, least := num(0x40000001), num(0x3fffffff), num(1)
	for _, c := range []struct {
		kind    int64
		a, b    pair
		numbers []float32
		want    pair
		stays   int
	}{
		// Ranges that lie apart, that touch, that overlap, and that hold each other.
		{impl.NodeUnion, pair{1, 2}, pair{3, 4}, nil, pair{1, 2}, staysA}, {impl.NodeUnion, pair{3, 4}, pair{1, 2}, nil, pair{1, 2}, staysB}, {impl.NodeUnion, pair{1, 2}, pair{2, 3}, nil, pair{1, 2}, staysA},
		{impl.NodeUnion, pair{2, 3}, pair{1, 2}, nil, pair{1, 2}, staysBoth}, {impl.NodeUnion, pair{2, 3}, pair{1, down}, nil, pair{1, down}, staysB}, {impl.NodeUnion, pair{1, 2}, pair{down, 3}, nil, pair{1, 2}, staysBoth},
		{impl.NodeUnion, pair{1, 3}, pair{2, 4}, nil, pair{1, 3}, staysBoth}, {impl.NodeUnion, pair{2, 4}, pair{1, 3}, nil, pair{1, 3}, staysBoth}, {impl.NodeUnion, pair{1, 4}, pair{2, 3}, nil, pair{1, 3}, staysBoth}, {impl.NodeUnion, pair{2, 3}, pair{1, 4}, nil, pair{1, 3}, staysBoth},
		{impl.NodeUnion, pair{2, 2}, pair{2, 2}, nil, pair{2, 2}, staysA}, {impl.NodeUnion, pair{0, 0}, pair{-1, 0}, nil, pair{-1, 0}, staysBoth}, {impl.NodeUnion, pair{-5, -4}, pair{-3, 9}, nil, pair{-5, -4}, staysA},
		{impl.NodeCut, pair{1, 2}, pair{3, 4}, nil, pair{3, 4}, staysB}, {impl.NodeCut, pair{3, 4}, pair{1, 2}, nil, pair{3, 4}, staysA}, {impl.NodeCut, pair{1, 2}, pair{2, 3}, nil, pair{2, 3}, staysBoth},
		{impl.NodeCut, pair{2, 3}, pair{1, 2}, nil, pair{2, 3}, staysA}, {impl.NodeCut, pair{1, 2}, pair{up, 3}, nil, pair{up, 3}, staysB}, {impl.NodeCut, pair{2, 3}, pair{1, up}, nil, pair{2, 3}, staysBoth},
		{impl.NodeCut, pair{1, 3}, pair{2, 4}, nil, pair{2, 4}, staysBoth}, {impl.NodeCut, pair{2, 4}, pair{1, 3}, nil, pair{2, 4}, staysBoth}, {impl.NodeCut, pair{1, 4}, pair{2, 3}, nil, pair{2, 4}, staysBoth}, {impl.NodeCut, pair{2, 3}, pair{1, 4}, nil, pair{2, 4}, staysBoth},
		{impl.NodeCut, pair{2, 2}, pair{2, 2}, nil, pair{2, 2}, staysA}, {impl.NodeCut, pair{-5, -4}, pair{-3, 9}, nil, pair{-3, 9}, staysB},
		{impl.NodeLess, pair{1, 2}, pair{3, 4}, nil, pair{1, 2}, staysA}, {impl.NodeLess, pair{1, 2}, pair{-1, 5}, nil, pair{1, 2}, staysA}, {impl.NodeLess, pair{2, 3}, pair{-2, 5}, nil, pair{2, 3}, staysA},
		{impl.NodeLess, pair{2, 3}, pair{-up, 5}, nil, pair{2, 3}, staysBoth}, {impl.NodeLess, pair{-2, -1}, pair{-4, -3}, nil, pair{3, 4}, staysBoth}, {impl.NodeLess, pair{-2, -1}, pair{1, 5}, nil, pair{-2, -1}, staysBoth}, {impl.NodeLess, pair{-2, -1}, pair{2, 5}, nil, pair{-2, -1}, staysA},
		{impl.NodeLess, pair{-1, 2}, pair{-3, 1}, nil, pair{-1, 3}, staysBoth}, {impl.NodeLess, pair{-3, 3}, pair{-1, 2}, nil, pair{-2, 3}, staysBoth}, {impl.NodeLess, pair{-9, -8}, pair{-7, 9}, nil, pair{-9, 7}, staysBoth}, {impl.NodeLess, pair{0, 0}, pair{0, 0}, nil, pair{0, 0}, staysA},
		{impl.NodeSmooth, pair{1, 1}, pair{1, 1}, []float32{2}, pair{0.5, 0.5}, staysBoth}, {impl.NodeSmooth, pair{1, 2}, pair{1, 2}, []float32{2}, pair{0.5, 1.875}, staysBoth}, {impl.NodeSmooth, pair{1, 2}, pair{3, 4}, []float32{2}, pair{0.875, 2}, staysBoth},
		{impl.NodeSmooth, pair{1, 2}, pair{4, 5}, []float32{2}, pair{1, 2}, staysA}, {impl.NodeSmooth, pair{4, 5}, pair{1, 2}, []float32{2}, pair{1, 2}, staysB}, {impl.NodeSmooth, pair{1, 2}, pair{4, 5}, []float32{1}, pair{1, 2}, staysA}, {impl.NodeSmooth, pair{1, 2}, pair{4, 5}, []float32{up}, pair{1, 2}, staysBoth},
		{impl.NodeSmooth, pair{1, 2}, pair{2, 3}, []float32{least}, pair{1, 2}, staysBoth}, {impl.NodeSmooth, pair{2, 3}, pair{1, 2}, []float32{least}, pair{1, 2}, staysBoth}, {impl.NodeSmooth, pair{1, 2}, pair{up, 3}, []float32{least}, pair{1, 2}, staysA}, {impl.NodeSmooth, pair{2, 3}, pair{1, down}, []float32{least}, pair{1, down}, staysB},
		{impl.NodeSmooth, pair{1, 4}, pair{2, 3}, []float32{0.5}, pair{0.875, 3}, staysBoth}, {impl.NodeSmooth, pair{2, 3}, pair{1, 4}, []float32{4}, pair{0, 2.75}, staysBoth},
		// 4 k is an infinity, and h h is one too, or not.
		{impl.NodeSmooth, pair{1, 2}, pair{1, 2}, []float32{greatest}, all(), staysBoth}, {impl.NodeSmooth, pair{-greatest, 0}, pair{-greatest, 0}, []float32{greatest}, all(), staysBoth}, {impl.NodeSmooth, pair{1, 2}, pair{1, 2}, []float32{1e30}, pair{-infinite, -infinite}, staysBoth},
		{impl.NodeSmooth, pair{-greatest, -greatest}, pair{greatest, greatest}, []float32{greatest}, pair{-greatest, -greatest}, staysA}, {impl.NodeSmooth, pair{0, 0}, pair{greatest, greatest}, []float32{greatest}, pair{0, 0}, staysA},
	} {
		s, b := pairOf(c.kind, c.a, c.b, c.numbers...)
		rangesAre(t, "a pair", s, b, c.a, c.b, c.want)
		simplifiesTo(t, s, b, c.stays)
	}
}

// TestRangesOfBothZeros checks that the first one of two equal ends counts.
func TestRangesOfBothZeros(t *testing.T) {
	at := cube(minusZero, minusZero)
	for _, kind := range []int64{impl.NodeUnion, impl.NodeCut, impl.NodeSmooth} {
		var numbers []float32
		if kind == impl.NodeSmooth {
			numbers = []float32{num(1)}
		}
		rangesAre(t, "+0 and -0", bothZeros(kind, 0, 1, numbers...), at, pair{0, 0}, pair{minusZero, minusZero}, pair{0, 0})
		rangesAre(t, "-0 and +0", bothZeros(kind, 1, 0, numbers...), at, pair{0, 0}, pair{minusZero, minusZero}, pair{minusZero, minusZero})
	}
	less := shape(ball(0), ball(0), node(impl.NodeLess, 0, 1))
	rangesAre(t, "+0 less +0", less, at, pair{0, 0}, pair{0, 0}, pair{0, 0})
	less = shape(plane(1, 1, 1, 0), plane(1, 1, 1, 0), node(impl.NodeLess, 0, 1))
	rangesAre(t, "-0 less -0", less, at, pair{minusZero, minusZero}, pair{minusZero, minusZero}, pair{minusZero, minusZero})
}

// TestPairsOfInfinities has ranges with infinities, which are far away from a number.
func TestPairsOfInfinities(t *testing.T) {
	// The first ranges are doubled, so they have an infinity for the greatest number.
	first := plane(2, 0, 0, 0)
	for _, c := range []struct {
		kind    int64
		x, y    pair
		numbers []float32
		want    pair
		stays   int
	}{
		{impl.NodeUnion, pair{greatest, greatest}, pair{1, 2}, nil, pair{1, 2}, staysB}, {impl.NodeCut, pair{greatest, greatest}, pair{1, 2}, nil, pair{infinite, infinite}, staysA}, {impl.NodeLess, pair{-greatest, 0}, pair{1, 2}, nil, pair{-2, 0}, staysBoth},
		{impl.NodeSmooth, pair{greatest, greatest}, pair{1, 2}, []float32{1}, pair{1, 2}, staysB}, {impl.NodeSmooth, pair{-greatest, -greatest}, pair{1, 2}, []float32{1}, pair{-infinite, -infinite}, staysA},
		{impl.NodeSmooth, pair{0, greatest}, pair{1, 2}, []float32{2}, pair{-0.5, 2}, staysBoth},
	} {
		s := shape(first, probe(1), node(c.kind, 0, 1, c.numbers...))
		b := box(vec(c.x[0], c.y[0], minusZero), vec(c.x[1], c.y[1], minusZero))
		rangesAre(t, "a pair", s, b, pair{product(2, c.x[0]), product(2, c.x[1])}, c.y, c.want)
		simplifiesTo(t, s, b, c.stays)
	}
	// Both are infinities: their difference is not a number, so h is not greater than 0 for one end, and k for the other.
	s := shape(first, plane(2, 0, 0, 1), node(impl.NodeSmooth, 0, 1, 1))
	b := onAxis(0, greatest, greatest)
	rangesAre(t, "two infinities", s, b, pair{infinite, infinite}, pair{infinite, infinite}, pair{infinite, infinite})
	simplifiesTo(t, s, b, staysBoth)
	s.Nodes[2] = node(impl.NodeUnion, 0, 1)
	simplifiesTo(t, s, b, staysA)
	s.Nodes[2] = node(impl.NodeLess, 0, 1)
	simplifiesTo(t, s, b, staysA)
}

// wrapped returns a leaf below a node with one child.
func wrapped(leaf impl.Node, kind, axis int64, numbers ...float32) impl.Shape {
	return shape(leaf, node(kind, 0, axis, numbers...))
}

func TestRangesOfWraps(t *testing.T) {
	for _, c := range []struct {
		s           impl.Shape
		b           impl.Box
		child, want pair
	}{
		{wrapped(probe(0), impl.NodeMove, 0, 1, -1, 0.5), onAxis(0, -1, 2), pair{-2, 1}, pair{-2, 1}}, {wrapped(probe(1), impl.NodeMove, 0, 1, -1, 0.5), onAxis(1, -1, 2), pair{0, 3}, pair{0, 3}}, {wrapped(probe(2), impl.NodeMove, 0, 1, -1, 0.5), onAxis(2, 4, 5), pair{3.5, 4.5}, pair{3.5, 4.5}},
		{wrapped(ball(1), impl.NodeMove, 0, 9, 0, 0), box(vec(0, 0, 0), vec(2, 0, 0)), pair{6, 8}, pair{6, 8}}, {wrapped(probe(0), impl.NodeMove, 0, greatest, 0, 0), onAxis(0, -greatest, 0), all(), all()}, {wrapped(ball(1), impl.NodeMove, 0, 0, 0, -greatest), onAxis(2, 0, greatest), all(), all()},
		{wrapped(ball(1), impl.NodeScale, 0, 2), onAxis(0, 2, 6), pair{0, 2}, pair{0, 4}}, {wrapped(ball(1), impl.NodeScale, 0, 0.5), onAxis(1, -2, 0), pair{-1, 3}, pair{-0.5, 1.5}}, {wrapped(probe(2), impl.NodeScale, 0, 3), onAxis(2, -6, -3), pair{-2, -1}, pair{-6, -3}},
		{wrapped(ball(1), impl.NodeScale, 0, 1e-30), onAxis(0, 1, 1e10), all(), all()}, {wrapped(ball(1), impl.NodeScale, 0, greatest), onAxis(0, 0, greatest), pair{-1, 0}, pair{-greatest, 0}}, {wrapped(plane(0, 0, 0, -4), impl.NodeScale, 0, greatest), cube(0, 0), pair{4, 4}, pair{infinite, infinite}},
		// A product with a number gives the first one of two zeros as both ends here, too.
		{wrapped(plane(0.5, 0, 0, 0), impl.NodeScale, 0, 0.5), onAxis(0, num(0x80000001), num(1)), pair{num(0x80000001), num(1)}, pair{minusZero, minusZero}}, {wrapped(plane(0.5, 0, 0, 0), impl.NodeScale, 0, 0.5), onAxis(0, minusZero, num(1)), pair{minusZero, num(1)}, pair{minusZero, minusZero}},
		{wrapped(probe(0), impl.NodeStretch, 0, 2, 0.5, 4), onAxis(0, -2, 4), pair{-1, 2}, pair{-1, 2}}, {wrapped(probe(1), impl.NodeStretch, 0, 2, 0.5, 4), onAxis(1, 1, 2), pair{2, 4}, pair{2, 4}}, {wrapped(probe(2), impl.NodeStretch, 0, 2, 0.5, 4), onAxis(2, -8, -4), pair{-2, -1}, pair{-2, -1}}, {wrapped(ball(1), impl.NodeStretch, 0, 1, 1, num(1)), onAxis(2, 0, 1), all(), all()},
		{wrapped(ball(1), impl.NodeRound, 0, 0.5), onAxis(0, 1, 3), pair{0, 2}, pair{-0.5, 1.5}}, {wrapped(ball(1), impl.NodeRound, 0, -0.5), onAxis(0, -3, 3), pair{-1, 2}, pair{-0.5, 2.5}}, {wrapped(probe(1), impl.NodeRound, 0, greatest), onAxis(1, -greatest, 0), pair{-greatest, 0}, pair{-infinite, -greatest}},
		{wrapped(probe(0), impl.NodeShell, 0, 0.5), onAxis(0, -3, 2), pair{-3, 2}, pair{-0.5, 2.5}}, {wrapped(probe(1), impl.NodeShell, 0, 0.5), onAxis(1, -3, -2), pair{-3, -2}, pair{1.5, 2.5}}, {wrapped(probe(2), impl.NodeShell, 0, 0.5), onAxis(2, 1, 2), pair{1, 2}, pair{0.5, 1.5}}, {wrapped(probe(0), impl.NodeShell, 0, 0.5), onAxis(0, -3, minusZero), pair{-3, minusZero}, pair{-0.5, 2.5}},
		{wrapped(probe(0), impl.NodeShell, 0, 0), onAxis(0, 0, 0), pair{0, 0}, pair{0, minusZero}}, {wrapped(probe(0), impl.NodeShell, 0, minusZero), onAxis(0, 0, 0), pair{0, 0}, pair{0, 0}}, {wrapped(plane(2, 2, 0, 0), impl.NodeShell, 0, 1), box(vec(-greatest, greatest, 0), vec(0, greatest, 0)), all(), pair{-1, infinite}},
		{wrapped(ball(1), impl.NodeShell, 0, 0.25), cube(0, 0), pair{-1, -1}, pair{0.75, 0.75}},
	} {
		rangesAre(t, "a wrap", c.s, c.b, c.child, c.want)
	}
}

func TestRangesOfTurns(t *testing.T) {
	half := impl.SineTurns(0.125)
	for axis := range 3 {
		first, second := (axis+1)%3, (axis+2)%3
		b := onAxis(axis, -7, 9)
		*coordinate(&b, first), *coordinate(&b, 3+first), *coordinate(&b, second), *coordinate(&b, 3+second) = 1, 2, -3, 5
		for _, c := range []struct {
			turns         float32
			first, second pair
		}{
			{0.25, pair{-3, 5}, pair{-2, -1}}, {-0.25, pair{-5, 3}, pair{1, 2}}, {0.5, pair{-2, -1}, pair{-5, 3}}, {0, pair{1, 2}, pair{-3, 5}}, {1, pair{1, 2}, pair{-3, 5}},
			{0.125, pair{sum(half, product(half, -3)), sum(product(half, 2), product(half, 5))}, pair{difference(product(half, -3), product(half, 2)), difference(product(half, 5), half)}},
			{0.375, pair{sum(product(half, -2), product(half, -3)), sum(-half, product(half, 5))}, pair{difference(product(half, -5), product(half, 2)), difference(product(half, 3), half)}},
		} {
			turned := func(read int) impl.Shape { return wrapped(probe(read), impl.NodeTurn, int64(axis), c.turns) }
			rangeIs(t, "the first one", turned(first), b, c.first)
			rangeIs(t, "the second one", turned(second), b, c.second)
			rangeIs(t, "the axis itself", turned(axis), b, pair{-7, 9})
		}
	}
}

// TestTurnsOfInfinities has products that are not-a-numbers, for an infinity times the 0 of a great turn, though the
// other end of the range is 0.
func TestTurnsOfInfinities(t *testing.T) {
	for axis := range 3 {
		first, second := (axis+1)%3, (axis+2)%3
		for _, c := range []pair{{0, 1e10}, {-1e10, 0}, {-1e10, 1e10}, {1e10, 1e10}} {
			for _, infinity := range []int{first, second} {
				for _, read := range []int{first, second} {
					s := shape(probe(read), node(impl.NodeTurn, 0, int64(axis), 1<<40), node(impl.NodeScale, 1, 0, 1e-30))
					rangesAre(t, "a turn of infinities", s, onAxis(infinity, c[0], c[1]), all(), all(), all())
				}
			}
		}
		s := shape(probe(first), node(impl.NodeTurn, 0, int64(axis), 1<<40))
		rangeIs(t, "a great turn", s, onAxis(first, 1, 2), pair{0, 0})
		rangeIs(t, "a great turn", s, onAxis(second, -2, 3), pair{0, 0})
	}
}

func TestRangesOfMirrors(t *testing.T) {
	for axis := range 3 {
		other := (axis + 1) % 3
		for _, c := range []struct{ at, want pair }{
			{pair{1, 2}, pair{1, 2}}, {pair{-2, -1}, pair{1, 2}}, {pair{-3, 2}, pair{0, 3}}, {pair{-1, 2}, pair{0, 2}}, {pair{0, 2}, pair{0, 2}}, {pair{-2, 0}, pair{0, 2}}, {pair{-5, -5}, pair{5, 5}}, {pair{0, 0}, pair{0, 0}},
			{pair{-greatest, greatest}, pair{0, greatest}},
		} {
			rangeIs(t, "a mirrored coordinate", wrapped(probe(axis), impl.NodeMirror, int64(axis)), onAxis(axis, c.at[0], c.at[1]), c.want)
			rangeIs(t, "another coordinate", wrapped(probe(other), impl.NodeMirror, int64(axis)), onAxis(other, c.at[0], c.at[1]), c.at)
		}
	}
}

func TestRangesOfFolds(t *testing.T) {
	for axis := range 3 {
		for _, c := range []struct {
			s        float32
			at, want pair
		}{
			// Within one fold, on one side of its middle or on both.
			{1, pair{0.25, 0.75}, pair{0.25, 0.75}}, {1, pair{-0.75, -0.25}, pair{0.25, 0.75}}, {1, pair{-0.5, 0.75}, pair{0, 0.75}}, {1, pair{-1, 1}, pair{0, 1}}, {1, pair{0, 1}, pair{0, 1}}, {1, pair{2.25, 2.5}, pair{0.25, 0.5}}, {1, pair{1.5, 1.75}, pair{0.25, 0.5}},
			{1, pair{1.5, 2.25}, pair{0, 0.5}}, {1, pair{3, 3}, pair{1, 1}}, {1, pair{3, 5}, pair{0, 1}}, {1, pair{-6.5, -6.25}, pair{0.25, 0.5}}, {1, pair{-5, -3}, pair{0, 1}}, {3, pair{6.5, 7}, pair{0.5, 1}}, {0.25, pair{0.5, 0.625}, pair{0, 0.125}},
			{1, pair{0, 0}, pair{0, 0}}, {1, pair{minusZero, 0}, pair{0, 0}}, {1, pair{0, minusZero}, pair{0, 0}}, {1, pair{minusZero, minusZero}, pair{0, 0}}, {1, pair{4, 4}, pair{0, 0}}, {1, pair{-4, -3.5}, pair{0, 0.5}},
			// Over two folds, and over many.
			{1, pair{1, num(0x3f800001)}, pair{0, 4}}, {1, pair{num(0xbf800001), -1}, pair{0, 4}}, {1, pair{0.5, 1.5}, pair{0, 4}}, {1, pair{5, 7}, pair{0, 4}}, {1, pair{-7, -6.5}, pair{0, 4}}, {1, pair{-1.5, 1.5}, pair{0, 4}}, {1, pair{0, 100}, pair{0, 4}}, {0.25, pair{-100, 3}, pair{0, 1}},
			{1, pair{0, 8388608}, pair{0, 4}}, {1, pair{0, 8388609}, pair{0, 4}}, {1, pair{-8388608, 0}, pair{0, 4}}, {1, pair{-8388609, 8388609}, pair{0, 4}}, {2, pair{16777215, 16777216}, pair{0, 1}}, {2, pair{16777212, 16777216}, pair{0, 8}},
			{num(1), pair{0, num(3)}, pair{0, num(4)}}, {5e37, pair{0, 3e38}, pair{0, product(4, 5e37)}},
			// Beyond 4194304 folds, on one side or on both.
			{1, pair{0, 8388610}, all()}, {1, pair{0, 8388611}, all()}, {1, pair{-8388610, 0}, all()}, {1, pair{-8388611, 8388610}, all()}, {1, pair{8388608, 8388612}, all()}, {1, pair{-1e9, -1e8}, all()}, {2, pair{16777216, 16777220}, all()},
			{1, pair{8388610, 8388610}, pair{0, 0}}, {1, pair{8388611, 8388611}, pair{1, 1}}, {1, pair{-8388613, -8388612}, pair{0, 1}}, {1, pair{1e30, 1e30}, pair{0, 0}},
			// The number of folds, or their width, is an infinity, or what it gives is not a number.
			{1e-30, pair{1e10, 1e10}, all()}, {1e-10, pair{0, 1e38}, all()}, {1e-10, pair{-1e38, 1e38}, all()}, {greatest, pair{0, 1}, all()}, {greatest, pair{-1, 1}, all()}, {1e38, pair{0, 3e38}, all()}, {1e38, pair{0, 2e38}, all()}, {1e38, pair{3e38, 3e38}, all()},
			// Ten folds lead beyond the greatest number, and nine do not.
			{1.79e37, pair{0, greatest}, all()}, {1.79e37, pair{-greatest, 0}, all()}, {1.79e37, pair{-greatest, greatest}, all()}, {1.8e37, pair{-greatest, greatest}, pair{0, product(4, 1.8e37)}},
		} {
			s := wrapped(probe(axis), impl.NodeFold, int64(axis), c.s)
			rangeIs(t, "a folded coordinate", s, onAxis(axis, c.at[0], c.at[1]), c.want)
			other := (axis + 2) % 3
			rangeIs(t, "another coordinate", wrapped(probe(other), impl.NodeFold, int64(axis), c.s), onAxis(other, -7, 9), map[bool]pair{false: {-7, 9}, true: all()}[c.s == greatest])
		}
	}
}

// TestRangesOfAllNodes has trees, in which the nodes have boxes of their own.
func TestRangesOfAllNodes(t *testing.T) {
	move := func(a int64, x float32) impl.Node { return node(impl.NodeMove, a, 0, x, 0, 0) }
	near := box(vec(0, 0, 0), vec(2, 0, 0))
	two := shape(ball(1), ball(1), move(1, 9), node(impl.NodeUnion, 0, 2))
	rangesAre(t, "two balls", two, near, pair{-1, 1}, pair{6, 8}, pair{6, 8}, pair{-1, 1})
	apart := shape(ball(1), ball(2), move(0, 4), node(impl.NodeScale, 1, 0, 2), node(impl.NodeCut, 3, 2))
	rangesAre(t, "children that do not stand together", apart, near, pair{1, 3}, pair{-2, -1}, pair{1, 3}, pair{-4, -2}, pair{1, 3})
	deep := shape(ball(1), node(impl.NodeMirror, 0, 0), move(1, 3), node(impl.NodeFold, 2, 0, 2), node(impl.NodeRound, 3, 0, 0.5))
	rangesAre(t, "one below the other", deep, onAxis(0, 4.5, 5.5), pair{0.5, 1.5}, pair{0.5, 1.5}, pair{0.5, 1.5}, pair{0.5, 1.5}, pair{0, 1})
	rangesAre(t, "one below the other, over two folds", deep, onAxis(0, 0, 5), pair{-1, 4}, pair{-1, 4}, pair{-1, 4}, pair{-1, 4}, pair{-1.5, 3.5})
	// What is not bounded is so for the leaf, and for the nodes above as far as they need it.
	far := shape(ball(1), node(impl.NodeStretch, 0, 0, 1e-30, 1, 1), node(impl.NodeShell, 1, 0, 1), ball(3), node(impl.NodeUnion, 2, 3), node(impl.NodeRound, 4, 0, 1))
	rangesAre(t, "a part that is not bounded", far, onAxis(0, 0, 1e10), all(), all(), pair{-1, infinite}, pair{-3, 1e10}, pair{-3, 1e10}, pair{-4, 1e10})
}

func signIs(t *testing.T, s impl.Shape, b impl.Box, want int64) {
	t.Helper()
	got, ok := impl.SignIn(s, b)
	equal(t, fmt.Sprint("SignIn of ", s, " in ", b, " succeeds"), ok, true)
	equal(t, fmt.Sprint("SignIn of ", s, " in ", b), got, want)
}

func TestSignIn(t *testing.T) {
	s := shape(ball(1))
	signIs(t, s, cube(2, 3), 1)
	signIs(t, s, onAxis(0, 0, 0.5), -1)
	signIs(t, s, onAxis(0, 0.5, 1.5), 0)
	// Ranges that begin or end at 0.
	signIs(t, s, onAxis(0, 1, 2), 0)
	signIs(t, s, onAxis(1, num(0x3f800001), 2), 1)
	signIs(t, s, onAxis(2, 0, 1), 0)
	signIs(t, s, onAxis(0, num(0xbf7fffff), 0), -1)
	signIs(t, s, point(0, 0, -1), 0)
	signIs(t, s, cube(-9, 9), 0)
	for axis := range 3 {
		read := shape(probe(axis))
		for _, c := range []struct {
			low, high float32
			want      int64
		}{
			{0, 0, 0}, {minusZero, minusZero, 0}, {minusZero, 0, 0}, {0, 1, 0}, {minusZero, 1, 0}, {-1, 0, 0}, {-1, minusZero, 0}, {-1, 1, 0},
			{num(1), 1, 1}, {-1, num(0x80000001), -1}, {greatest, greatest, 1}, {-greatest, -greatest, -1}, {-greatest, greatest, 0},
		} {
			signIs(t, read, onAxis(axis, c.low, c.high), c.want)
		}
	}
	signIs(t, s, cube(1e20, 1e20), 1)
	signIs(t, shape(plane(-2, 0, 0, 0)), onAxis(0, greatest, greatest), -1)
	signIs(t, shape(plane(2, 2, 0, 0)), box(vec(-greatest, greatest, 0), vec(-greatest, greatest, 0)), 0)
}

// failsRanges checks that all functions with a shape and a box fail.
func failsRanges(t *testing.T, what string, s impl.Shape, b impl.Box) {
	t.Helper()
	list, ok := impl.RangesIn(s, b)
	failsList(t, what+", RangesIn", list, ok)
	r, ok := impl.RangeIn(s, b)
	fails(t, what+", RangeIn", r, ok)
	sign, ok := impl.SignIn(s, b)
	fails(t, what+", SignIn", sign, ok)
	simple, ok := impl.SimplifyIn(s, b)
	failsShape(t, what+", SimplifyIn", simple, ok)
	for splits := int64(0); splits <= impl.MaxSplits; splits++ {
		boxes, ok := impl.SurfaceBoxes(s, b, splits)
		failsList(t, what+", SurfaceBoxes", boxes, ok)
	}
}

func TestRangesFail(t *testing.T) {
	for what, s := range invalidShapes() {
		for _, b := range []impl.Box{{}, cube(2, 3), cube(-0.25, 0.25), invalidBoxes()[0]} {
			failsRanges(t, what, s, b)
		}
	}
	for _, b := range invalidBoxes() {
		failsRanges(t, fmt.Sprint("a ball in ", b), shape(ball(0.125)), b)
		failsRanges(t, fmt.Sprint("a plane in ", b), shape(plane(0, 0, 0, -1)), b)
		failsRanges(t, fmt.Sprint("a union in ", b), shape(ball(1), ball(2), node(impl.NodeUnion, 0, 1)), b)
	}
}
