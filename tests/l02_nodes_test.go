package tests

import (
	"fmt"
	"math"
	"math/rand"
	"testing"

	"loop.example/g01193/impl"
)

func TestLimitsOfChapter2(t *testing.T) {
	equal(t, "MaxNodes", impl.MaxNodes, 16)
	for i, row := range kindRows() {
		equal(t, "a kind", row.kind, int64(i))
	}
}

func TestValidShapesOfEachKind(t *testing.T) {
	for _, row := range kindRows() {
		for axis := int64(-1); axis <= 3; axis++ {
			want := axis == 0 || row.axis && axis >= 0 && axis <= 2
			equal(t, fmt.Sprint("kind ", row.kind, ", axis ", axis), impl.ValidShape(underRow(row, axis, row.numbers)), want)
		}
		long := append(append([]float32(nil), row.numbers...), 1)
		equal(t, "a number too many", impl.ValidShape(underRow(row, 0, long)), false)
		if len(row.numbers) > 0 {
			equal(t, "a number too few", impl.ValidShape(underRow(row, 0, long[:len(row.numbers)-1])), false)
			equal(t, "no numbers", impl.ValidShape(underRow(row, 0, nil)), false)
		} else {
			equal(t, "an empty list", impl.ValidShape(underRow(row, 0, []float32{})), true)
		}
	}
}

func TestBoundsOfNumbers(t *testing.T) {
	for _, row := range kindRows() {
		for i := range row.numbers {
			for _, x := range oddNumbers() {
				numbers := append([]float32(nil), row.numbers...)
				numbers[i] = x
				want := math.Abs(float64(x)) <= math.MaxFloat32
				switch row.bound {
				case "at least 0":
					want = want && x >= 0
				case "greater than 0":
					want = want && x > 0
				}
				equal(t, fmt.Sprint("kind ", row.kind, ", number ", i, ", ", x), impl.ValidShape(underRow(row, 0, numbers)), want)
			}
		}
	}
	equal(t, "a radius of -0", impl.ValidShape(shape(ball(minusZero))), true)
	equal(t, "a radius below 0", impl.ValidShape(shape(ball(num(0x80000001)))), false)
	equal(t, "a scale of -0", impl.ValidShape(shape(ball(1), node(impl.NodeScale, 0, 0, minusZero))), false)
	equal(t, "the least scale", impl.ValidShape(shape(ball(1), node(impl.NodeScale, 0, 0, num(1)))), true)
}

// invalidShapes has shapes that are not valid, each for a reason of its own.
func invalidShapes() map[string]impl.Shape {
	union := func(a, b int64) impl.Node { return node(impl.NodeUnion, a, b) }
	round := func(a int64) impl.Node { return node(impl.NodeRound, a, 0, 1) }
	return map[string]impl.Shape{
		"no nodes":                     {},
		"an empty list":                {Nodes: []impl.Node{}},
		"a node too many":              chain(17),
		"many nodes":                   chain(1000),
		"17 nodes with two children":   {Nodes: append(chain(15).Nodes, ball(1), union(14, 15))},
		"kind -1":                      shape(node(-1, 0, 0, 1)),
		"kind 17":                      shape(node(17, 0, 0, 1)),
		"kind 17 of one child":         shape(ball(1), node(17, 0, 0, 1)),
		"the least kind":               shape(node(math.MinInt64, 0, 0, 1)),
		"the greatest kind":            shape(node(math.MaxInt64, 0, 0, 1)),
		"a kind of 32 bits more":       shape(node(1<<32, 0, 0, 1)),
		"a bad leaf":                   shape(ball(1), ball(-1), union(0, 1)),
		"no number":                    shape(node(impl.NodeBall, 0, 0)),
		"two numbers":                  shape(node(impl.NodeBall, 0, 0, 1, 2)),
		"many numbers":                 shape(node(impl.NodeBall, 0, 0, filled(100000, 1)...)),
		"a number of a union":          shape(ball(1), ball(2), node(impl.NodeUnion, 0, 1, 1)),
		"a negative radius":            shape(ball(-1)),
		"a smooth of 0":                shape(ball(1), ball(2), node(impl.NodeSmooth, 0, 1, 0)),
		"a not-a-number":               shape(ball(notNumber)),
		"an infinity":                  shape(ball(infinite)),
		"a move by an infinity":        shape(ball(1), node(impl.NodeMove, 0, 0, 0, 0, -infinite)),
		"a turn by a not-a-number":     shape(ball(1), node(impl.NodeTurn, 0, 0, notNumber)),
		"two roots":                    shape(ball(1), ball(2)),
		"a node of no other one":       shape(ball(1), ball(2), round(1)),
		"two unions, one without use":  shape(ball(1), ball(2), union(0, 1), ball(3)),
		"a child of two nodes":         shape(ball(1), round(0), round(0), union(1, 2)),
		"a child of two nodes, no use": shape(ball(1), ball(2), round(0), round(0)),
		"a child twice":                shape(ball(1), union(0, 0)),
		"a child twice, one unused":    shape(ball(1), ball(2), union(1, 1)),
		"a child twice, second unused": shape(ball(1), ball(2), union(0, 0)),
		"a child of itself":            shape(ball(1), round(1)),
		"a single node of itself":      shape(round(0)),
		"a single union of itself":     shape(union(0, 0)),
		"a second child of itself":     shape(ball(1), ball(2), union(0, 2)),
		"a later child":                shape(ball(1), round(2), round(0)),
		"nodes of each other":          shape(ball(1), round(2), round(1)),
		"a child that is missing":      shape(ball(1), round(7)),
		"a second child missing":       shape(ball(1), ball(2), union(0, 16)),
		"a child of -1":                shape(ball(1), round(-1)),
		"a second child of -1":         shape(ball(1), ball(2), union(0, -1)),
		"the least child":              shape(ball(1), round(math.MinInt64)),
		"the greatest child":           shape(ball(1), ball(2), union(math.MaxInt64, 1)),
		"a child of 32 bits more":      shape(ball(1), round(1<<32)),
		"an axis of 3":                 shape(ball(1), node(impl.NodeMirror, 0, 3)),
		"an axis of -1":                shape(ball(1), node(impl.NodeTurn, 0, -1, 1)),
		"the greatest axis":            shape(ball(1), node(impl.NodeFold, 0, math.MaxInt64, 1)),
		"an axis of a move":            shape(ball(1), node(impl.NodeMove, 0, 1, 0, 0, 0)),
		"an axis of a shell":           shape(ball(1), node(impl.NodeShell, 0, 2, 1)),
		"A of a leaf":                  shape(ball(1), node(impl.NodeBall, 1, 0, 1), union(0, 1)),
		"A of the only leaf":           shape(node(impl.NodeBall, 1, 0, 1)),
		"B of a leaf":                  shape(node(impl.NodeBall, 0, 1, 1)),
		"A of a leaf of -1":            shape(node(impl.NodeBall, -1, 0, 1)),
		"a child of a leaf":            shape(ball(1), node(impl.NodeBall, 0, 0, 1)),
	}
}

func TestShapesAreRefused(t *testing.T) {
	for what, s := range invalidShapes() {
		equal(t, what, impl.ValidShape(s), false)
		refusedByShapeFunctions(t, what, s)
		equal(t, what+", the same", impl.SameShape(s, copyShape(s)), true)
	}
}

// refusedByShapeFunctions checks that all that comes with a failure is zero.
func refusedByShapeFunctions(t *testing.T, what string, s impl.Shape) {
	t.Helper()
	good := shape(ball(1))
	made, ok := impl.JoinShapes(impl.NodeUnion, s, good, nil)
	failsShape(t, what+", JoinShapes", made, ok)
	made, ok = impl.JoinShapes(impl.NodeUnion, good, s, nil)
	failsShape(t, what+", JoinShapes, second", made, ok)
	made, ok = impl.WrapShape(impl.NodeRound, s, 0, []float32{1})
	failsShape(t, what+", WrapShape", made, ok)
	for _, shapes := range [][]impl.Shape{{s}, {s, good}, {good, s}, {good, good, s}} {
		made, ok = impl.UnionOf(shapes)
		failsShape(t, what+", UnionOf", made, ok)
	}
	for n := int64(-1); n < 3; n++ {
		made, ok = impl.PartOf(s, n)
		failsShape(t, what+", PartOf", made, ok)
	}
	depth, ok := impl.DepthOf(s)
	fails(t, what+", DepthOf", depth, ok)
	leaves, ok := impl.LeavesOf(s)
	failsList(t, what+", LeavesOf", leaves, ok)
	distance, ok := impl.DistanceAt(s, impl.Vector{})
	fails(t, what+", DistanceAt", distance, ok)
	distances, ok := impl.DistancesAt(s, []impl.Vector{{}, {X: 1}})
	failsList(t, what+", DistancesAt", distances, ok)
	distances, ok = impl.DistancesAt(s, nil)
	failsList(t, what+", DistancesAt no points", distances, ok)
	equal(t, what+", IsInside", impl.IsInside(s, impl.Vector{}), false)
	leaf, ok := impl.LeafAt(s, impl.Vector{})
	fails(t, what+", LeafAt", leaf, ok)
	factor, ok := impl.FactorOf(s)
	fails(t, what+", FactorOf", factor, ok)
}

func TestShapesAreValid(t *testing.T) {
	r := rand.New(rand.NewSource(4))
	for count := 1; count <= impl.MaxNodes; count++ {
		equal(t, "a chain", impl.ValidShape(chain(count)), true)
		for range 50 {
			s := randomShape(r, count, kindRows())
			equal(t, "nodes", len(s.Nodes), count)
			equal(t, fmt.Sprint(s), impl.ValidShape(s), true)
		}
	}
	round := func(a int64) impl.Node { return node(impl.NodeRound, a, 0, 1) }
	equal(t, "children in the opposite order", impl.ValidShape(shape(ball(1), ball(2), node(impl.NodeLess, 1, 0))), true)
	equal(t, "children that do not stand together", impl.ValidShape(shape(ball(1), ball(2), round(0), round(1), node(impl.NodeCut, 3, 2))), true)
	equal(t, "one node too many", impl.ValidShape(chain(impl.MaxNodes+1)), false)
}

func TestSameShape(t *testing.T) {
	s := shape(ball(1), ball(2), node(impl.NodeSmooth, 0, 1, 0.5), node(impl.NodeTurn, 2, 1, 0.25))
	equal(t, "the same", impl.SameShape(s, copyShape(s)), true)
	for what, change := range map[string]func(s impl.Shape){
		"Kind":        func(s impl.Shape) { s.Nodes[1].Kind = impl.NodeBox },
		"A":           func(s impl.Shape) { s.Nodes[3].A = 1 },
		"B":           func(s impl.Shape) { s.Nodes[3].B = 2 },
		"a number":    func(s impl.Shape) { s.Nodes[0].Numbers[0] = num(0x3f800001) },
		"the last":    func(s impl.Shape) { s.Nodes[3].Numbers[0] = 0.5 },
		"no number":   func(s impl.Shape) { s.Nodes[2].Numbers = nil },
		"one more":    func(s impl.Shape) { s.Nodes[2].Numbers = []float32{0.5, 0} },
		"a big child": func(s impl.Shape) { s.Nodes[3].A += 1 << 32 },
	} {
		other := copyShape(s)
		change(other)
		equal(t, what, impl.SameShape(s, other), false)
		equal(t, what+", the other way", impl.SameShape(other, s), false)
	}
	equal(t, "a node less", impl.SameShape(s, shape(s.Nodes[:3]...)), false)
	equal(t, "a node more", impl.SameShape(shape(s.Nodes[:3]...), s), false)
	equal(t, "no nodes", impl.SameShape(impl.Shape{}, impl.Shape{Nodes: []impl.Node{}}), true)
	equal(t, "no nodes and one", impl.SameShape(impl.Shape{}, s), false)
	for _, c := range []struct {
		a, b float32
		want bool
	}{
		{0, 0, true}, {0, minusZero, false}, {minusZero, minusZero, true}, {1, -1, false}, {infinite, infinite, true}, {infinite, -infinite, false},
		{notNumber, notNumber, true}, {num(0x7f800001), num(0xffc00000), true}, {notNumber, 0, false}, {num(1), 0, false},
	} {
		equal(t, fmt.Sprint(c.a, " and ", c.b), impl.SameShape(shape(ball(c.a)), shape(ball(c.b))), c.want)
		equal(t, fmt.Sprint(c.b, " and ", c.a), impl.SameShape(shape(ball(c.b)), shape(ball(c.a))), c.want)
	}
	equal(t, "a list that is empty", impl.SameShape(shape(node(5, 0, 1)), shape(impl.Node{Kind: 5, B: 1, Numbers: []float32{}})), true)
}
