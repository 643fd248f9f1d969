package tests

import (
	"fmt"
	"math"
	"slices"
	"testing"

	"loop.example/g01193/impl"
)

func simpleIs(t *testing.T, what string, s impl.Shape, b impl.Box, want ...impl.Node) {
	t.Helper()
	got, ok := impl.SimplifyIn(s, b)
	makes(t, fmt.Sprint(what, ", SimplifyIn of ", s, " in ", b), got, ok, want...)
}

func TestSimplifyIn(t *testing.T) {
	move := func(a int64, x float32) impl.Node { return node(impl.NodeMove, a, 0, x, 0, 0) }
	round := func(a int64) impl.Node { return node(impl.NodeRound, a, 0, 0.5) }
	union := func(a, b int64) impl.Node { return node(impl.NodeUnion, a, b) }
	near, far := cube(-0.5, 0.5), box(vec(8.5, 0, 0), vec(9.5, 0, 0))
	simpleIs(t, "a leaf", shape(ball(1)), near, ball(1))
	chained := chain(16)
	simpleIs(t, "a chain", chained, near, chained.Nodes...)
	two := shape(ball(1), ball(2), move(1, 9), union(0, 2))
	simpleIs(t, "the first one", two, near, ball(1))
	simpleIs(t, "the second one", two, far, ball(2), move(0, 9))
	simpleIs(t, "both", two, box(vec(0, 0, 0), vec(9, 0, 0)), two.Nodes...)
	wrappedTwo := shape(append(two.Nodes, round(3), node(impl.NodeMirror, 4, 0))...)
	simpleIs(t, "the first one, wrapped", wrappedTwo, near, ball(1), round(0), node(impl.NodeMirror, 1, 0))
	simpleIs(t, "the second one, wrapped", wrappedTwo, far, ball(2), move(0, 9), round(1), node(impl.NodeMirror, 2, 0))
	// Axes stay as they are, where children get new indices.
	turned := shape(ball(3), ball(1), move(0, 9), node(impl.NodeTurn, 1, 2, 0.5), union(3, 2))
	simpleIs(t, "an axis", turned, near, ball(1), node(impl.NodeTurn, 0, 2, 0.5))
	// The nodes that stay keep their order, wherever the node that they replace stood.
	apart := shape(ball(1), ball(0.25), ball(2), move(2, 9), union(0, 3), node(impl.NodeCut, 1, 4))
	simpleIs(t, "an order", apart, box(vec(0, 0, 0), vec(0.125, 0, 0)), ball(0.25))
	simpleIs(t, "an order", apart, box(vec(0.75, 0, 0), vec(2, 0, 0)), ball(1), ball(0.25), node(impl.NodeCut, 1, 0))
	thick := shape(ball(1), ball(0.25), ball(2), move(2, 9), union(0, 3), node(impl.NodeSmooth, 4, 1, 4))
	simpleIs(t, "an order, with both", thick, near, ball(1), ball(0.25), node(impl.NodeSmooth, 0, 1, 4))
	// Each node below another one that is replaced is looked at, too.
	three := shape(ball(1), ball(1), ball(1), move(1, 9), move(2, -9), union(3, 4), union(5, 0))
	simpleIs(t, "none of three", three, box(vec(-9, 0, 0), vec(9, 0, 0)), three.Nodes...)
	simpleIs(t, "the first one of three", three, near, ball(1))
	simpleIs(t, "the second one of three", three, far, ball(1), move(0, 9))
	simpleIs(t, "the third one of three", three, box(vec(-9, 0, 0), vec(-9, 0, 0)), ball(1), move(0, -9))
	simpleIs(t, "two of three", three, box(vec(0, 0, 0), vec(9, 0, 0)), ball(1), ball(1), move(1, 9), union(2, 0))
	simpleIs(t, "two of three, with another one", three, box(vec(-9, 0, 0), vec(-1, 0, 0)), ball(1), ball(1), move(1, -9), union(2, 0))
	folded := shape(append(two.Nodes, node(impl.NodeFold, 3, 0, 2))...)
	simpleIs(t, "below a fold", folded, far, ball(1), node(impl.NodeFold, 0, 0, 2))
	deep := shape(ball(1), ball(2), ball(3), ball(4), node(impl.NodeLess, 3, 0), node(impl.NodeUnion, 4, 1), node(impl.NodeCut, 2, 5))
	simpleIs(t, "less, union and cut", deep, onAxis(0, 8, 9), ball(3))
	simpleIs(t, "the union alone", deep, onAxis(0, 1.5, 3), ball(1), ball(3), ball(4), node(impl.NodeLess, 2, 0), node(impl.NodeCut, 1, 3))
	simpleIs(t, "union and cut", deep, onAxis(0, 0, 0.25), ball(2))
	// Where nothing is known, nothing is replaced.
	odd := shape(plane(2, 2, 0, 0), plane(2, 2, 0, 0), union(0, 1))
	simpleIs(t, "ranges of all numbers", odd, box(vec(-greatest, greatest, 0), vec(-greatest, greatest, 0)), odd.Nodes...)
}

// TestEqualChildren has children whose distances are the same in a box of one point.
func TestEqualChildren(t *testing.T) {
	for _, b := range []impl.Box{point(1, 0, 0), point(3, 0, 0), point(0, 0.5, 0)} {
		for _, c := range []struct{ kind, stays int64 }{{impl.NodeUnion, 0}, {impl.NodeCut, 0}} {
			simpleIs(t, "equal children", shape(ball(1), ball(1), node(c.kind, 0, 1)), b, ball(1))
			simpleIs(t, "equal children, exchanged", shape(ball(1), plane(0, 0, 0, -7), ball(1), node(c.kind, 0, 2), node(impl.NodeUnion, 3, 1)), b, ball(1))
		}
		s := shape(ball(1), ball(1), node(impl.NodeSmooth, 0, 1, num(1)))
		simpleIs(t, "equal children, smooth", s, b, s.Nodes...)
	}
	// Both zeros are equal, and the first one counts.
	at := cube(minusZero, minusZero)
	for _, kind := range []int64{impl.NodeUnion, impl.NodeCut, impl.NodeLess} {
		s := bothZeros(kind, 0, 1)
		simpleIs(t, "+0 and -0", s, at, s.Nodes[0])
		s = bothZeros(kind, 1, 0)
		simpleIs(t, "-0 and +0", s, at, s.Nodes[1])
	}
}

func surfaceIs(t *testing.T, what string, s impl.Shape, b impl.Box, splits int64, want ...impl.Box) {
	t.Helper()
	got, ok := impl.SurfaceBoxes(s, b, splits)
	equal(t, "SurfaceBoxes of "+what+" succeeds", ok, true)
	sameBoxes(t, "SurfaceBoxes of "+what, got, want)
}

func TestSurfaceBoxes(t *testing.T) {
	s, along := shape(ball(1)), box(vec(0, 0, 0), vec(4, 0, 0))
	part := func(low, high float32) impl.Box { return box(vec(low, 0, 0), vec(high, 0, 0)) }
	surfaceIs(t, "no split", s, along, 0, along)
	surfaceIs(t, "one split", s, along, 1, part(0, 2))
	surfaceIs(t, "two splits", s, along, 2, part(0, 1), part(1, 2))
	surfaceIs(t, "three splits", s, along, 3, part(0.5, 1), part(1, 1.5))
	surfaceIs(t, "six splits", s, along, 6, part(0.9375, 1), part(1, 1.0625))
	surfaceIs(t, "no split without a surface", s, cube(2, 3), 0)
	surfaceIs(t, "splits without a surface", s, cube(2, 3), 6)
	surfaceIs(t, "splits inside", s, cube(0, 0.25), 6)
	// The halves are in order, and those of the first half come first.
	wide := shape(plane(0, 0, 0, 0))
	surfaceIs(t, "all halves", wide, part(0, 4), 2, part(0, 1), part(1, 2), part(2, 3), part(3, 4))
	surfaceIs(t, "two axes", wide, box(vec(0, 0, 0), vec(2, 3, 0)), 2, box(vec(0, 0, 0), vec(1, 1.5, 0)), box(vec(1, 0, 0), vec(2, 1.5, 0)), box(vec(0, 1.5, 0), vec(1, 3, 0)), box(vec(1, 1.5, 0), vec(2, 3, 0)))
	surfaceIs(t, "a point at a surface", s, point(1, 0, 0), 6, slices.Repeat([]impl.Box{point(1, 0, 0)}, 64)...)
	surfaceIs(t, "a point beside a surface", s, point(1.5, 0, 0), 6)
	surfaceIs(t, "two surfaces", shape(ball(3), ball(1), node(impl.NodeLess, 0, 1)), along, 4, part(0.75, 1), part(1, 1.25), part(2.75, 3), part(3, 3.25))
	for splits := int64(0); splits <= impl.MaxSplits; splits++ {
		got, ok := impl.SurfaceBoxes(wide, cube(-1, 1), splits)
		equal(t, "SurfaceBoxes of a cube succeeds", ok, true)
		equal(t, fmt.Sprint("boxes of ", splits, " splits"), len(got), 1<<splits)
	}
}

func TestSurfaceBoxesFails(t *testing.T) {
	s, good := shape(ball(1)), box(vec(0, 0, 0), vec(4, 0, 0))
	for _, splits := range []int64{-1, 7, 8, 64, 1 << 32, 1<<32 + 1, math.MaxInt64, math.MinInt64} {
		for _, b := range []impl.Box{good, cube(2, 3)} {
			got, ok := impl.SurfaceBoxes(s, b, splits)
			failsList(t, fmt.Sprint("SurfaceBoxes of ", splits, " splits"), got, ok)
		}
	}
	// A box that cannot be split is only split if a surface can be in it.
	for _, b := range []impl.Box{cube(-greatest, greatest), onAxis(2, -0x1p127, 0x1p127)} {
		surfaceIs(t, "no split of a box without halves", s, b, 0, b)
		for splits := int64(1); splits <= impl.MaxSplits; splits++ {
			got, ok := impl.SurfaceBoxes(s, b, splits)
			failsList(t, fmt.Sprint("SurfaceBoxes of ", b), got, ok)
			surfaceIs(t, "a box without halves that is outside", shape(plane(0, 0, 0, -1)), b, splits)
			surfaceIs(t, "a box without halves that is inside", shape(plane(0, 0, 0, 1)), b, splits)
		}
	}
}
