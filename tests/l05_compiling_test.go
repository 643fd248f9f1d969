package tests

import (
	"fmt"
	"math"
	"testing"

	"loop.example/g01193/impl"
)

// TestIsEmptyNode asks for nodes of all kinds, with children and axes of all sorts, which do not matter.
func TestIsEmptyNode(t *testing.T) {
	tiny, above, below := num(1), num(0x3f800001), num(0x3f7fffff)
	empty := []impl.Node{
		alone(impl.NodeMove, 0, 0, 0), alone(impl.NodeScale, 1), alone(impl.NodeStretch, 1, 1, 1), alone(impl.NodeRound, 0),
	}
	others := []impl.Node{
		alone(impl.NodeMove, minusZero, 0, 0), alone(impl.NodeMove, 0, minusZero, 0), alone(impl.NodeMove, 0, 0, minusZero),
		alone(impl.NodeMove, minusZero, minusZero, minusZero), alone(impl.NodeMove, tiny, 0, 0), alone(impl.NodeMove, 0, tiny, 0), alone(impl.NodeMove, 0, 0, tiny),
		alone(impl.NodeMove, 0, 0, notNumber), alone(impl.NodeMove, 1, 1, 1),
		alone(impl.NodeMove), alone(impl.NodeMove, 0), alone(impl.NodeMove, 0, 0), alone(impl.NodeMove, 0, 0, 0, 0),
		alone(impl.NodeScale, above), alone(impl.NodeScale, below), alone(impl.NodeScale, -1), alone(impl.NodeScale, 0), alone(impl.NodeScale, 2),
		alone(impl.NodeScale, infinite), alone(impl.NodeScale, notNumber), alone(impl.NodeScale), alone(impl.NodeScale, 1, 1), alone(impl.NodeScale, 1, 1, 1),
		alone(impl.NodeStretch, above, 1, 1), alone(impl.NodeStretch, 1, below, 1), alone(impl.NodeStretch, 1, 1, above), alone(impl.NodeStretch, 1, 1, -1),
		alone(impl.NodeStretch, 1, 2, 1), alone(impl.NodeStretch, 0, 0, 0), alone(impl.NodeStretch), alone(impl.NodeStretch, 1), alone(impl.NodeStretch, 1, 1), alone(impl.NodeStretch, 1, 1, 1, 1),
		alone(impl.NodeRound, minusZero), alone(impl.NodeRound, tiny), alone(impl.NodeRound, 1), alone(impl.NodeRound, notNumber), alone(impl.NodeRound),
		alone(impl.NodeRound, 0, 0), alone(impl.NodeRound, 0, 0, 0),
	}
	for kind := int64(0); kind < 17; kind++ {
		for count := range 5 {
			if kind != impl.NodeMove && kind != impl.NodeRound {
				others = append(others, alone(kind, filled(count, 0)...))
			}
			if kind != impl.NodeScale && kind != impl.NodeStretch {
				others = append(others, alone(kind, filled(count, 1)...))
			}
		}
	}
	for _, kind := range []int64{-1, 17, 9 + 1<<32, 10 - 1<<32, math.MaxInt64, math.MinInt64} {
		for _, x := range []float32{0, 1} {
			others = append(others, alone(kind), alone(kind, x), alone(kind, x, x, x))
		}
	}
	for _, a := range oddIndices() {
		for _, b := range oddIndices() {
			for _, n := range empty {
				n.A, n.B = a, b
				equal(t, fmt.Sprint(n, " is empty"), impl.IsEmptyNode(n), true)
			}
			for _, n := range others {
				n.A, n.B = a, b
				equal(t, fmt.Sprint(n, " is empty"), impl.IsEmptyNode(n), false)
			}
		}
	}
}

// TestStepsOfEachKind compiles each kind of node above balls.
func TestStepsOfEachKind(t *testing.T) {
	for _, row := range kindRows() {
		for axis := int64(0); axis < 3; axis++ {
			if axis > 0 && !row.axis {
				continue
			}
			n := node(row.kind, 0, axis, row.numbers...)
			leaf := toLeaf(0, 0, ball(1))
			var want impl.Program
			switch row.kind {
			case impl.NodeBall, impl.NodeBox, impl.NodeTube, impl.NodeRing, impl.NodePlane:
				want = program(1, 1, toLeaf(0, 0, n))
			case impl.NodeUnion, impl.NodeCut, impl.NodeLess, impl.NodeSmooth:
				want = program(1, 2, leaf, toLeaf(1, 0, ball(2)), toMix(0, 0, 1, n))
			case impl.NodeScale:
				want = program(2, 1, toPoint(1, 0, n), toLeaf(0, 1, ball(1)), toMix(0, 0, 0, n))
			case impl.NodeRound, impl.NodeShell:
				want = program(1, 1, leaf, toMix(0, 0, 0, n))
			default:
				want = program(2, 1, toPoint(1, 0, n), toLeaf(0, 1, ball(1)))
			}
			compiles(t, fmt.Sprint("the kind ", row.kind, ", axis ", axis), underRow(row, axis, row.numbers), want)
		}
	}
}

// TestNodesThatAreNearlyEmpty checks that they have their steps.
func TestNodesThatAreNearlyEmpty(t *testing.T) {
	for _, numbers := range [][]float32{{minusZero, minusZero, minusZero}, {0, minusZero, 0}, {0, 0, minusZero}, {0, 0, 1}, {num(1), 0, 0}} {
		n := alone(impl.NodeMove, numbers...)
		compiles(t, fmt.Sprint(n), wrapped(ball(1), n.Kind, 0, numbers...), program(2, 1, toPoint(1, 0, n), toLeaf(0, 1, ball(1))))
	}
	for _, numbers := range [][]float32{{1, 1, 2}, {num(0x3f800001), 1, 1}, {1, num(0x3f7fffff), 1}} {
		n := alone(impl.NodeStretch, numbers...)
		compiles(t, fmt.Sprint(n), wrapped(ball(1), n.Kind, 0, numbers...), program(2, 1, toPoint(1, 0, n), toLeaf(0, 1, ball(1))))
	}
	for _, x := range []float32{num(0x3f800001), num(0x3f7fffff), num(1)} {
		n := alone(impl.NodeScale, x)
		compiles(t, fmt.Sprint(n), wrapped(ball(1), n.Kind, 0, x), program(2, 1, toPoint(1, 0, n), toLeaf(0, 1, ball(1)), toMix(0, 0, 0, n)))
	}
	for _, x := range []float32{minusZero, num(1), 1} {
		n := alone(impl.NodeRound, x)
		compiles(t, fmt.Sprint(n), wrapped(ball(1), n.Kind, 0, x), program(1, 1, toLeaf(0, 0, ball(1)), toMix(0, 0, 0, n)))
	}
	// These change nothing either, but are not told to be empty.
	for _, n := range []impl.Node{alone(impl.NodeTurn, 0), alone(impl.NodeMirror), alone(impl.NodeFold, 1)} {
		compiles(t, fmt.Sprint(n), wrapped(ball(1), n.Kind, 0, n.Numbers...), program(2, 1, toPoint(1, 0, n), toLeaf(0, 1, ball(1))))
	}
	shell := alone(impl.NodeShell, 0)
	compiles(t, "a shell of 0", wrapped(ball(1), shell.Kind, 0, 0), program(1, 1, toLeaf(0, 0, ball(1)), toMix(0, 0, 0, shell)))
}

// emptyNodes returns nodes above a node that are empty, one above the other.
func emptyNodes(child int64) []impl.Node {
	return []impl.Node{
		node(impl.NodeMove, child, 0, 0, 0, 0), node(impl.NodeScale, child+1, 0, 1),
		node(impl.NodeStretch, child+2, 0, 1, 1, 1), node(impl.NodeRound, child+3, 0, 0),
	}
}

func TestEmptyNodesHaveNoSteps(t *testing.T) {
	for i, n := range emptyNodes(0) {
		n.A = 0
		compiles(t, fmt.Sprint("one at the root, ", i), shape(ball(1), n), program(1, 1, toLeaf(0, 0, ball(1))))
	}
	above := shape(append([]impl.Node{ball(1)}, emptyNodes(0)...)...)
	compiles(t, "several at the root", above, program(1, 1, toLeaf(0, 0, ball(1))))
	for i, n := range emptyNodes(2) {
		n.A = 2
		compiles(t, fmt.Sprint("one above a union, ", i), shape(ball(1), ball(2), node(impl.NodeUnion, 0, 1), n),
			program(1, 2, toLeaf(0, 0, ball(1)), toLeaf(1, 0, ball(2)), toMix(0, 0, 1, alone(impl.NodeUnion))))
	}
	move, round := node(impl.NodeMove, 0, 0, 1, 2, 3), alone(impl.NodeRound, 2)
	between := shape(append(append([]impl.Node{ball(1), move}, emptyNodes(1)...), node(impl.NodeRound, 5, 0, 2))...)
	compiles(t, "several between others", between, program(2, 1, toPoint(1, 0, move), toLeaf(0, 1, ball(1)), toMix(0, 0, 0, round)))
	below := shape(append([]impl.Node{ball(1)}, append(emptyNodes(0), node(impl.NodeMove, 4, 0, 1, 2, 3))...)...)
	compiles(t, "several above a leaf", below, program(2, 1, toPoint(1, 0, move), toLeaf(0, 1, ball(1))))
	// Both children of a cut are empty nodes, and it is below one.
	pair := shape(ball(1), ball(2), node(impl.NodeScale, 0, 0, 1), node(impl.NodeMove, 1, 0, 0, 0, 0), node(impl.NodeRound, 3, 0, 0),
		node(impl.NodeCut, 4, 2), node(impl.NodeStretch, 5, 0, 1, 1, 1))
	compiles(t, "below a cut", pair, program(1, 2, toLeaf(0, 0, ball(2)), toLeaf(1, 0, ball(1)), toMix(0, 0, 1, alone(impl.NodeCut))))
	all := []impl.Node{ball(3)}
	for i := range int64(15) {
		n := emptyNodes(0)[i%4]
		n.A = i
		all = append(all, n)
	}
	compiles(t, "15 of them", shape(all...), program(1, 1, toLeaf(0, 0, ball(3))))
}

// TestRegistersOfShapes checks which registers are taken, and taken again, and that these are the least ones.
func TestRegistersOfShapes(t *testing.T) {
	union, cut, less := alone(impl.NodeUnion), alone(impl.NodeCut), alone(impl.NodeLess)
	move, turn, scale := alone(impl.NodeMove, 1, 2, 3), node(impl.NodeTurn, 0, 2, 0.25), alone(impl.NodeScale, 2)
	smooth, shell := alone(impl.NodeSmooth, 1), alone(impl.NodeShell, 1)
	compiles(t, "both children moved", shape(ball(1), node(impl.NodeMove, 0, 0, 1, 2, 3), ball(2), node(impl.NodeTurn, 2, 2, 0.25), node(impl.NodeUnion, 1, 3)),
		program(2, 2, toPoint(1, 0, move), toLeaf(0, 1, ball(1)), toPoint(1, 0, turn), toLeaf(1, 1, ball(2)), toMix(0, 0, 1, union)))
	compiles(t, "the second one first", shape(ball(1), ball(2), node(impl.NodeLess, 1, 0)),
		program(1, 2, toLeaf(0, 0, ball(2)), toLeaf(1, 0, ball(1)), toMix(0, 0, 1, less)))
	compiles(t, "joined to the left", shape(ball(1), ball(2), node(impl.NodeUnion, 0, 1), ball(3), node(impl.NodeCut, 2, 3)),
		program(1, 2, toLeaf(0, 0, ball(1)), toLeaf(1, 0, ball(2)), toMix(0, 0, 1, union), toLeaf(1, 0, ball(3)), toMix(0, 0, 1, cut)))
	compiles(t, "joined to the right", shape(ball(1), ball(2), node(impl.NodeUnion, 0, 1), ball(3), node(impl.NodeCut, 3, 2)),
		program(1, 3, toLeaf(0, 0, ball(3)), toLeaf(1, 0, ball(1)), toLeaf(2, 0, ball(2)), toMix(1, 1, 2, union), toMix(0, 0, 1, cut)))
	compiles(t, "moved twice and once", shape(ball(1), node(impl.NodeMove, 0, 0, 1, 2, 3), node(impl.NodeScale, 1, 0, 2), ball(2), node(impl.NodeTurn, 3, 2, 0.25),
		node(impl.NodeSmooth, 2, 4, 1), node(impl.NodeShell, 5, 0, 1)),
		program(3, 2, toPoint(1, 0, scale), toPoint(2, 1, move), toLeaf(0, 2, ball(1)), toMix(0, 0, 0, scale), toPoint(1, 0, turn), toLeaf(1, 1, ball(2)), toMix(0, 0, 1, smooth), toMix(0, 0, 0, shell)))
	compiles(t, "a scale above two children", shape(ball(1), ball(2), node(impl.NodeUnion, 0, 1), node(impl.NodeScale, 2, 0, 2)),
		program(2, 2, toPoint(1, 0, scale), toLeaf(0, 1, ball(1)), toLeaf(1, 1, ball(2)), toMix(0, 0, 1, union), toMix(0, 0, 0, scale)))
	compiles(t, "a scale as the second child", shape(ball(1), ball(2), node(impl.NodeScale, 1, 0, 2), node(impl.NodeUnion, 0, 2)),
		program(2, 2, toLeaf(0, 0, ball(1)), toPoint(1, 0, scale), toLeaf(1, 1, ball(2)), toMix(1, 1, 0, scale), toMix(0, 0, 1, union)))
}

// deepShape returns a ball below 15 nodes of a kind with one child.
func deepShape(kind, axis int64, numbers ...float32) impl.Shape {
	s := shape(ball(1))
	for i := range int64(15) {
		s.Nodes = append(s.Nodes, node(kind, i, axis, numbers...))
	}
	return s
}

// joinedShape returns 8 balls joined by 7 nodes, each of which has the next one as its first or as its second child,
// below a move.
func joinedShape(kind int64, second bool) impl.Shape {
	s := shape(ball(0))
	for i := int64(1); i < 8; i++ {
		s.Nodes = append(s.Nodes, ball(float32(i)))
		last := int64(len(s.Nodes)) - 1
		if second {
			s.Nodes = append(s.Nodes, node(kind, last, last-1))
		} else {
			s.Nodes = append(s.Nodes, node(kind, last-1, last))
		}
	}
	return shape(append(s.Nodes, node(impl.NodeMove, 14, 0, 1, 2, 3))...)
}

func TestDeepestShapes(t *testing.T) {
	for _, kind := range kindsOfSteps()[impl.StepPoint] {
		row := kindRows()[kind]
		s := deepShape(kind, 0, row.numbers...)
		want := program(16, 1)
		for i := range int64(15) {
			want.Steps = append(want.Steps, toPoint(i+1, i, alone(kind, row.numbers...)))
		}
		want.Steps = append(want.Steps, toLeaf(0, 15, ball(1)))
		if kind == impl.NodeScale {
			for range 15 {
				want.Steps = append(want.Steps, toMix(0, 0, 0, alone(kind, row.numbers...)))
			}
			equal(t, "steps of 15 scales", len(want.Steps), 31)
		}
		compiles(t, fmt.Sprint("15 nodes of the kind ", kind), s, want)
	}
	shells := program(1, 1, toLeaf(0, 0, ball(1)))
	for range 15 {
		shells.Steps = append(shells.Steps, toMix(0, 0, 0, alone(impl.NodeShell, 1)))
	}
	compiles(t, "15 shells", deepShape(impl.NodeShell, 0, 1), shells)
	for _, kind := range []int64{impl.NodeUnion, impl.NodeCut, impl.NodeLess} {
		move := alone(impl.NodeMove, 1, 2, 3)
		left := program(2, 2, toPoint(1, 0, move), toLeaf(0, 1, ball(0)))
		right := program(2, 8, toPoint(1, 0, move))
		for i := int64(1); i < 8; i++ {
			left.Steps = append(left.Steps, toLeaf(1, 1, ball(float32(i))), toMix(0, 0, 1, alone(kind)))
			right.Steps = append(right.Steps, toLeaf(i-1, 1, ball(float32(8-i))))
		}
		right.Steps = append(right.Steps, toLeaf(7, 1, ball(0)))
		for i := int64(6); i >= 0; i-- {
			right.Steps = append(right.Steps, toMix(i, i, i+1, alone(kind)))
		}
		compiles(t, fmt.Sprint("first children of the kind ", kind), joinedShape(kind, false), left)
		compiles(t, fmt.Sprint("second children of the kind ", kind), joinedShape(kind, true), right)
	}
}

func TestShapesAreNotCompiled(t *testing.T) {
	for what, s := range invalidShapes() {
		p, ok := impl.CompileShape(s)
		failsProgram(t, what, p, ok)
	}
	empty := node(impl.NodeMove, 0, 1, 0, 0, 0)
	p, ok := impl.CompileShape(shape(ball(1), empty))
	failsProgram(t, "an empty node with an axis", p, ok)
	p, ok = impl.CompileShape(shape(node(impl.NodeMove, 0, 0, 0, 0, 0)))
	failsProgram(t, "an empty node of itself", p, ok)
}
