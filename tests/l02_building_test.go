package tests

import (
	"fmt"
	"math"
	"math/rand"
	"testing"

	"loop.example/g01193/impl"
)

func TestOneNode(t *testing.T) {
	for _, row := range kindRows() {
		got, ok := impl.OneNode(row.kind, row.numbers)
		if row.children == 0 {
			makes(t, "OneNode", got, ok, node(row.kind, 0, 0, row.numbers...))
		} else {
			failsShape(t, fmt.Sprint("OneNode of the kind ", row.kind), got, ok)
		}
	}
	got, ok := impl.OneNode(impl.NodeBall, []float32{minusZero})
	makes(t, "a radius of -0", got, ok, ball(minusZero))
	for _, kind := range []int64{-1, 17, 1 << 32, math.MinInt64, math.MaxInt64} {
		got, ok = impl.OneNode(kind, []float32{1})
		failsShape(t, fmt.Sprint("OneNode of the kind ", kind), got, ok)
	}
	for _, numbers := range [][]float32{nil, {}, {1, 2}, {-1}, {notNumber}, {infinite}, {num(0x80000001)}} {
		got, ok = impl.OneNode(impl.NodeBall, numbers)
		failsShape(t, fmt.Sprint("OneNode of ", numbers), got, ok)
	}
}

func TestJoinShapes(t *testing.T) {
	a := shape(ball(1), node(impl.NodeTurn, 0, 2, 0.25))
	b := shape(ball(2), ball(3), node(impl.NodeMirror, 1, 2), node(impl.NodeLess, 2, 0))
	for _, row := range kindRows() {
		got, ok := impl.JoinShapes(row.kind, a, b, row.numbers)
		if row.children != 2 {
			failsShape(t, fmt.Sprint("JoinShapes by the kind ", row.kind), got, ok)
			continue
		}
		makes(t, "JoinShapes", got, ok, ball(1), node(impl.NodeTurn, 0, 2, 0.25), ball(2), ball(3), node(impl.NodeMirror, 3, 2), node(impl.NodeLess, 4, 2), node(row.kind, 1, 5, row.numbers...))
	}
	// The root of the second one has an index here that an axis can have.
	for _, row := range kindRows() {
		_, ok := impl.JoinShapes(row.kind, shape(ball(1)), shape(ball(2)), row.numbers)
		equal(t, fmt.Sprint("JoinShapes of balls by the kind ", row.kind), ok, row.children == 2)
		_, ok = impl.JoinShapes(row.kind, a, shape(ball(2)), row.numbers)
		equal(t, fmt.Sprint("JoinShapes of three by the kind ", row.kind), ok, row.children == 2)
	}
	got, ok := impl.JoinShapes(impl.NodeUnion, a, b, []float32{})
	equal(t, "an empty list of numbers", ok, true)
	equal(t, "nodes", len(got.Nodes), 7)
	for _, c := range []struct {
		kind    int64
		numbers []float32
	}{
		{impl.NodeUnion, []float32{1}}, {impl.NodeSmooth, nil}, {impl.NodeSmooth, []float32{0}}, {impl.NodeSmooth, []float32{minusZero}}, {impl.NodeSmooth, []float32{notNumber}},
		{impl.NodeSmooth, []float32{infinite}}, {impl.NodeSmooth, []float32{1, 1}}, {-1, nil}, {17, nil}, {math.MinInt64, nil}, {math.MaxInt64, nil},
	} {
		got, ok = impl.JoinShapes(c.kind, a, b, c.numbers)
		failsShape(t, fmt.Sprint("JoinShapes by ", c), got, ok)
	}
}

func TestJoinShapesAtTheLimit(t *testing.T) {
	got, ok := impl.JoinShapes(impl.NodeCut, chain(8), chain(7), nil)
	equal(t, "16 nodes", ok, true)
	equal(t, "16 nodes are made", len(got.Nodes), 16)
	equal(t, "they are valid", impl.ValidShape(got), true)
	got, ok = impl.JoinShapes(impl.NodeCut, chain(8), chain(8), nil)
	failsShape(t, "17 nodes", got, ok)
	got, ok = impl.JoinShapes(impl.NodeCut, chain(16), chain(16), nil)
	failsShape(t, "33 nodes", got, ok)
}

func TestWrapShape(t *testing.T) {
	s := shape(ball(1), ball(2), node(impl.NodeLess, 1, 0))
	for _, row := range kindRows() {
		for axis := int64(-1); axis <= 3; axis++ {
			got, ok := impl.WrapShape(row.kind, s, axis, row.numbers)
			if row.children == 1 && (axis == 0 || row.axis && axis > 0 && axis < 3) {
				makes(t, "WrapShape", got, ok, ball(1), ball(2), node(impl.NodeLess, 1, 0), node(row.kind, 2, axis, row.numbers...))
			} else {
				failsShape(t, fmt.Sprint("WrapShape of the kind ", row.kind, " with the axis ", axis), got, ok)
			}
			_, ok = impl.WrapShape(row.kind, shape(ball(1)), axis, row.numbers)
			equal(t, fmt.Sprint("WrapShape of a ball by the kind ", row.kind, " with the axis ", axis), ok, row.children == 1 && (axis == 0 || row.axis && axis > 0 && axis < 3))
		}
	}
	for _, c := range []struct {
		kind, axis int64
		numbers    []float32
	}{
		{impl.NodeRound, 0, nil}, {impl.NodeRound, 0, []float32{1, 1}}, {impl.NodeRound, 0, []float32{notNumber}}, {impl.NodeRound, 0, []float32{infinite}},
		{impl.NodeScale, 0, []float32{0}}, {impl.NodeShell, 0, []float32{-1}}, {impl.NodeMirror, 0, []float32{1}}, {impl.NodeMove, 0, []float32{1, 2}},
		{impl.NodeMirror, math.MinInt64, nil}, {impl.NodeMirror, math.MaxInt64, nil}, {impl.NodeMirror, 1 << 32, nil}, {-1, 0, nil}, {17, 0, nil}, {math.MaxInt64, 0, nil},
	} {
		got, ok := impl.WrapShape(c.kind, s, c.axis, c.numbers)
		failsShape(t, fmt.Sprint("WrapShape by ", c), got, ok)
	}
	got, ok := impl.WrapShape(impl.NodeRound, chain(15), 0, []float32{0.5})
	makes(t, "16 nodes", got, ok, chain(16).Nodes...)
	got, ok = impl.WrapShape(impl.NodeRound, chain(16), 0, []float32{0.5})
	failsShape(t, "17 nodes", got, ok)
}

func TestUnionOf(t *testing.T) {
	b := shape(ball(2), node(impl.NodeMirror, 0, 1))
	got, ok := impl.UnionOf([]impl.Shape{b})
	makes(t, "UnionOf one", got, ok, b.Nodes...)
	got, ok = impl.UnionOf([]impl.Shape{shape(ball(1)), b})
	makes(t, "UnionOf two", got, ok, ball(1), ball(2), node(impl.NodeMirror, 1, 1), node(impl.NodeUnion, 0, 2))
	got, ok = impl.UnionOf([]impl.Shape{b, shape(ball(1)), shape(ball(3))})
	makes(t, "UnionOf three", got, ok, ball(2), node(impl.NodeMirror, 0, 1), ball(1), node(impl.NodeUnion, 1, 2), ball(3), node(impl.NodeUnion, 3, 4))
	got, ok = impl.UnionOf(nil)
	failsShape(t, "UnionOf none", got, ok)
	got, ok = impl.UnionOf([]impl.Shape{})
	failsShape(t, "UnionOf an empty list", got, ok)
	for count := 1; count <= 20; count++ {
		var shapes []impl.Shape
		for range count {
			shapes = append(shapes, shape(ball(1)))
		}
		got, ok = impl.UnionOf(shapes)
		if count <= 8 {
			equal(t, fmt.Sprint("UnionOf ", count, " succeeds"), ok, true)
			equal(t, "nodes", len(got.Nodes), 2*count-1)
		} else {
			failsShape(t, fmt.Sprint("UnionOf ", count), got, ok)
		}
	}
	got, ok = impl.UnionOf([]impl.Shape{chain(16)})
	makes(t, "UnionOf a great one", got, ok, chain(16).Nodes...)
	got, ok = impl.UnionOf([]impl.Shape{chain(12), shape(ball(1)), shape(ball(1))})
	equal(t, "UnionOf 16 nodes", ok, true)
	equal(t, "nodes", len(got.Nodes), 16)
	got, ok = impl.UnionOf([]impl.Shape{chain(13), shape(ball(1)), shape(ball(1))})
	failsShape(t, "UnionOf 17 nodes", got, ok)
}

func TestPartOf(t *testing.T) {
	s := shape(
		ball(1), ball(2), node(impl.NodeTurn, 0, 2, 0.5), node(impl.NodeMirror, 1, 1), ball(3),
		node(impl.NodeLess, 4, 2), node(impl.NodeUnion, 3, 5))
	for i, want := range [][]impl.Node{
		{ball(1)}, {ball(2)}, {ball(1), node(impl.NodeTurn, 0, 2, 0.5)}, {ball(2), node(impl.NodeMirror, 0, 1)}, {ball(3)},
		{ball(1), node(impl.NodeTurn, 0, 2, 0.5), ball(3), node(impl.NodeLess, 2, 1)}, s.Nodes,
	} {
		got, ok := impl.PartOf(s, int64(i))
		makes(t, fmt.Sprint("PartOf ", i), got, ok, want...)
	}
	for _, n := range []int64{-1, 7, 8, 16, 1 << 32, math.MinInt64, math.MaxInt64} {
		got, ok := impl.PartOf(s, n)
		failsShape(t, fmt.Sprint("PartOf ", n), got, ok)
	}
}

// TestPartsOfManyShapes checks that parts are valid, and that their distances are those that the whole is made of.
func TestPartsOfManyShapes(t *testing.T) {
	r := rand.New(rand.NewSource(5))
	for i := range 500 {
		s := randomShape(r, 1+i%impl.MaxNodes, kindRows())
		for n := range s.Nodes {
			part, ok := impl.PartOf(s, int64(n))
			equal(t, "PartOf succeeds", ok, true)
			equal(t, "a part is valid", impl.ValidShape(part), true)
			p := randomPoint(r, 3)
			got, ok := impl.DistanceAt(part, p)
			want, _ := toldDistance(s, int64(n), p)
			succeeds(t, "the distance of a part", got, ok, want)
		}
		whole, ok := impl.PartOf(s, int64(len(s.Nodes)-1))
		makes(t, "the part of the root", whole, ok, s.Nodes...)
	}
}

func TestDepthAndLeaves(t *testing.T) {
	for _, c := range []struct {
		s      impl.Shape
		depth  int64
		leaves string
	}{
		{shape(ball(1)), 1, "[0]"},
		{chain(16), 16, "[0]"},
		{shape(ball(1), ball(2), node(impl.NodeUnion, 0, 1)), 2, "[0 1]"},
		{shape(ball(1), ball(2), node(impl.NodeUnion, 1, 0)), 2, "[0 1]"},
		{shape(ball(1), node(impl.NodeRound, 0, 0, 1), ball(2), node(impl.NodeLess, 1, 2)), 3, "[0 2]"},
		{shape(ball(1), node(impl.NodeRound, 0, 0, 1), ball(2), node(impl.NodeLess, 2, 1)), 3, "[0 2]"},
		// An axis is no child: the node with the index 2 is deep, but not below the root's B.
		{shape(ball(1), ball(2), node(impl.NodeCut, 0, 1), node(impl.NodeMirror, 2, 2)), 3, "[0 1]"},
		{shape(ball(1), node(impl.NodeMirror, 0, 2)), 2, "[0]"},
	} {
		depth, ok := impl.DepthOf(c.s)
		equal(t, "DepthOf succeeds", ok, true)
		equal(t, fmt.Sprint("DepthOf ", c.s), depth, c.depth)
		leaves, ok := impl.LeavesOf(c.s)
		equal(t, "LeavesOf succeeds", ok, true)
		equal(t, fmt.Sprint("LeavesOf ", c.s), fmt.Sprint(leaves), c.leaves)
	}
	r := rand.New(rand.NewSource(6))
	for i := range 500 {
		s := randomShape(r, 1+i%impl.MaxNodes, kindRows())
		depth, _ := impl.DepthOf(s)
		equal(t, fmt.Sprint("DepthOf ", s), depth, toldDepth(s, int64(len(s.Nodes)-1)))
		leaves, _ := impl.LeavesOf(s)
		var want []int64
		for j, n := range s.Nodes {
			if n.Kind <= impl.NodePlane {
				want = append(want, int64(j))
			}
		}
		equal(t, fmt.Sprint("LeavesOf ", s), fmt.Sprint(leaves), fmt.Sprint(want))
	}
}

func toldDepth(s impl.Shape, index int64) int64 {
	n := s.Nodes[index]
	switch kindRows()[n.Kind].children {
	case 0:
		return 1
	case 1:
		return 1 + toldDepth(s, n.A)
	}
	return 1 + max(toldDepth(s, n.A), toldDepth(s, n.B))
}
