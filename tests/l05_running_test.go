package tests

import (
	"fmt"
	"testing"

	"loop.example/g01193/impl"
)

// TestPointsOfSteps reads each coordinate of the point that a step makes at a plane.
func TestPointsOfSteps(t *testing.T) {
	for _, c := range []struct {
		n        impl.Node
		at, want impl.Vector
	}{
		{alone(impl.NodeMove, 1, -2, 0.5), vec(4, 5, 6), vec(3, 7, 5.5)},
		{alone(impl.NodeScale, 2), vec(4, 5, 6), vec(2, 2.5, 3)},
		{alone(impl.NodeStretch, 2, 4, 0.5), vec(4, 5, 6), vec(2, 1.25, 12)},
		{node(impl.NodeTurn, 0, 2, 0.25), vec(4, 5, 6), vec(5, -4, 6)},
		{node(impl.NodeTurn, 0, 0, 0.25), vec(4, 5, 6), vec(4, 6, -5)},
		{node(impl.NodeTurn, 0, 1, 0.25), vec(4, 5, 6), vec(-6, 5, 4)},
		{node(impl.NodeMirror, 0, 0), vec(-4, -5, -6), vec(4, -5, -6)},
		{node(impl.NodeMirror, 0, 1), vec(-4, -5, -6), vec(-4, 5, -6)},
		{node(impl.NodeMirror, 0, 2), vec(-4, -5, -6), vec(-4, -5, 6)},
		{node(impl.NodeFold, 0, 0, 1), vec(4.5, 5.5, 6.5), vec(0.5, 5.5, 6.5)},
		{node(impl.NodeFold, 0, 1, 1), vec(4.5, 5.5, 6.5), vec(4.5, 0.5, 6.5)},
		{node(impl.NodeFold, 0, 2, 1), vec(4.5, 5.5, 6.5), vec(4.5, 5.5, 0.5)},
	} {
		for axis, want := range []float32{c.want.X, c.want.Y, c.want.Z} {
			p := program(2, 1, toPoint(1, 0, c.n), toLeaf(0, 1, probe(axis)))
			runsTo(t, fmt.Sprint("the coordinate ", axis, " of ", c.n), p, c.at, want)
		}
	}
}

func TestLeavesOfSteps(t *testing.T) {
	for _, c := range []struct {
		n    impl.Node
		want float32
	}{
		{ball(1), 4}, {node(impl.NodeBox, 0, 0, 1, 2, 3), 2.828427}, {node(impl.NodeTube, 0, 0, 2, 1), 2.6055512}, {node(impl.NodeRing, 0, 0, 3, 1), 3}, {plane(2, 3, 4, 5), 13},
	} {
		runsTo(t, fmt.Sprint("the leaf ", c.n), program(1, 1, toLeaf(0, 0, c.n)), vec(3, 4, 0), c.want)
	}
}

// TestMixesOfSteps gives the numbers 3 and -2 to each kind of mix, in both orders.
func TestMixesOfSteps(t *testing.T) {
	for _, c := range []struct {
		n           impl.Node
		want, other float32
	}{
		{alone(impl.NodeUnion), -2, -2}, {alone(impl.NodeCut), 3, 3}, {alone(impl.NodeLess), 3, -2}, {alone(impl.NodeSmooth, 6), num(0xc002aaab), num(0xc002aaab)},
		{alone(impl.NodeScale, 4), 12, -8}, {alone(impl.NodeRound, 0.5), 2.5, -2.5}, {alone(impl.NodeShell, 0.5), 2.5, 1.5},
	} {
		b := int64(0)
		if kindRows()[c.n.Kind].children == 2 {
			b = 1
		}
		numbers := []impl.Step{toLeaf(1, 0, probe(0)), toLeaf(2, 0, probe(1))}
		p := program(1, 3, append(numbers, toMix(0, 1, 2*b, c.n))...)
		runsTo(t, fmt.Sprint("the mix ", c.n), p, vec(3, -2, 0), c.want)
		p = program(1, 3, append(numbers, toMix(0, 2, b, c.n))...)
		runsTo(t, fmt.Sprint("the mix ", c.n, " of -2"), p, vec(3, -2, 0), c.other)
	}
}

// TestRegistersBeforeTheyAreWritten checks that these are zeros without a sign, for each point again.
func TestRegistersBeforeTheyAreWritten(t *testing.T) {
	all := plane(1, 1, 1, 0)
	negative := vec(minusZero, minusZero, minusZero)
	runsTo(t, "the point itself", program(2, 1, toLeaf(0, 0, all)), negative, minusZero)
	for register := int64(1); register < 18; register++ {
		runsTo(t, "a vector that is not written", program(18, 1, toLeaf(0, register, all)), negative, 0)
		runsTo(t, "a vector that is not written", program(18, 1, toLeaf(0, register, ball(2))), vec(1, 2, 3), -2)
		p := program(18, 1, toPoint(1, register, alone(impl.NodeMove, 1, 2, 3)), toLeaf(0, 1, plane(1, 1, 1, 0)))
		runsTo(t, "a vector that is moved from one", p, vec(9, 9, 9), -6)
		runsTo(t, "a number that is not written", program(1, 18, toMix(0, register, 0, alone(impl.NodeRound, 0))), vec(1, 2, 3), 0)
		runsTo(t, "a number that is not written, less", program(1, 18, toMix(0, register, 0, alone(impl.NodeRound, 3))), vec(1, 2, 3), -3)
		runsTo(t, "two of them", program(1, 18, toMix(0, register, 18-register, alone(impl.NodeUnion))), vec(1, 2, 3), 0)
		runsTo(t, "one that is written and one that is not", program(1, 18, toLeaf(0, 0, ball(9)), toMix(0, register, 0, alone(impl.NodeUnion))), vec(0, 0, 0), -9)
	}
	runsTo(t, "the number 0", program(1, 1, toMix(0, 0, 0, alone(impl.NodeRound, 3))), vec(1, 2, 3), -3)
	// What a point leaves behind in the registers must not reach the next one.
	p := program(2, 2, toMix(0, 1, 0, alone(impl.NodeRound, -1)), toLeaf(1, 1, probe(0)), toPoint(1, 0, alone(impl.NodeMove, 0, 0, 0)),
		toMix(0, 0, 1, alone(impl.NodeUnion)))
	for _, count := range []int{1, 8, 9, 17} {
		list, ok := impl.RunPoints(p, points(count, vec(-5, 0, 0), vec(-7, 0, 0)))
		equal(t, "RunPoints succeeds", ok, true)
		sameList(t, "numbers of points on their own", list, make([]float32, count))
	}
}

// TestRegistersAreWrittenAgain checks that steps see what the last one wrote.
func TestRegistersAreWrittenAgain(t *testing.T) {
	right, up := alone(impl.NodeMove, -1, 0, 0), alone(impl.NodeMove, 0, -2, 0)
	flat := plane(1, 1, 1, 0)
	for _, c := range []struct {
		what string
		p    impl.Program
		want float32
	}{
		{"a vector from itself", program(2, 1, toPoint(1, 0, right), toPoint(1, 1, right), toPoint(1, 1, up), toLeaf(0, 1, flat)), 64},
		{"a vector anew", program(2, 1, toPoint(1, 0, right), toPoint(1, 0, up), toLeaf(0, 1, flat)), 62},
		{"a vector read before and after", program(2, 2, toPoint(1, 0, right), toLeaf(1, 1, flat), toPoint(1, 0, up), toLeaf(0, 1, flat), toMix(0, 0, 1, alone(impl.NodeUnion))), 61},
		{"one that is not used", program(3, 1, toPoint(2, 0, right), toPoint(1, 0, up), toLeaf(0, 1, flat)), 62},
		{"from one that is written later", program(3, 1, toPoint(1, 2, right), toPoint(2, 0, up), toLeaf(0, 1, flat)), 1},
		{"two vectors by turns", program(3, 1, toPoint(1, 0, right), toPoint(2, 1, up), toPoint(1, 2, up), toLeaf(0, 1, flat)), 65},
		{"the first vector after all", program(2, 1, toPoint(1, 0, right), toLeaf(0, 0, flat)), 60},
		{"a number anew", program(1, 1, toLeaf(0, 0, ball(1)), toLeaf(0, 0, flat)), 60},
		{"a number of itself", program(1, 1, toLeaf(0, 0, flat), toMix(0, 0, 0, alone(impl.NodeScale, 2)), toMix(0, 0, 0, alone(impl.NodeRound, 1))), 119},
		{"a number with itself", program(1, 1, toLeaf(0, 0, flat), toMix(0, 0, 0, alone(impl.NodeLess))), 60},
		{"a number with itself, smoothly", program(1, 1, toLeaf(0, 0, flat), toMix(0, 0, 0, alone(impl.NodeSmooth, 8))), 58},
		{"a number that is not used", program(1, 3, toLeaf(2, 0, ball(1)), toLeaf(0, 0, flat)), 60},
		{"the second one to itself", program(1, 2, toLeaf(1, 0, flat), toMix(1, 0, 1, alone(impl.NodeLess)), toMix(0, 1, 0, alone(impl.NodeRound, 7))), -7},
		{"the first one from another", program(1, 2, toLeaf(0, 0, ball(1)), toLeaf(1, 0, flat), toMix(0, 1, 0, alone(impl.NodeRound, 0))), 60},
		{"a mix of those behind", program(1, 3, toLeaf(1, 0, flat), toMix(2, 1, 0, alone(impl.NodeRound, 1)), toMix(0, 1, 2, alone(impl.NodeUnion))), 59},
	} {
		runsTo(t, c.what, c.p, vec(10, 20, 30), c.want)
	}
}

// TestCountsOfPoints checks lists of points around blocks, and blocks that are too short or too long.
func TestCountsOfPoints(t *testing.T) {
	p := program(2, 2, toPoint(1, 0, alone(impl.NodeMove, 1, 0, 0)), toLeaf(0, 1, probe(0)), toLeaf(1, 0, probe(1)), toMix(0, 0, 1, alone(impl.NodeUnion)))
	wanted := func(points []impl.Vector) []float32 {
		var list []float32
		for _, at := range points {
			list = append(list, min(at.X-1, at.Y))
		}
		return list
	}
	for _, count := range []int{0, 1, 2, 7, 8, 9, 15, 16, 17, 24, 100, 248, 249, 255, 256} {
		var points []impl.Vector
		for i := range count {
			points = append(points, vec(float32(i*37%64), float32(i*i%59), 0))
		}
		list, ok := impl.RunPoints(p, points)
		equal(t, fmt.Sprint("RunPoints of ", count, " points succeeds"), ok, true)
		sameList(t, fmt.Sprint("RunPoints of ", count, " points"), list, wanted(points))
		list, ok = impl.RunBlock(p, points)
		if count != 8 {
			failsList(t, fmt.Sprint("RunBlock of ", count, " points"), list, ok)
			continue
		}
		equal(t, "RunBlock succeeds", ok, true)
		sameList(t, "RunBlock", list, wanted(points))
	}
	for _, count := range []int{257, 264, 1000, 100000} {
		list, ok := impl.RunPoints(p, make([]impl.Vector, count))
		failsList(t, fmt.Sprint("RunPoints of ", count, " points"), list, ok)
		list, ok = impl.RunBlock(p, make([]impl.Vector, count))
		failsList(t, fmt.Sprint("RunBlock of ", count, " points"), list, ok)
	}
	for _, none := range [][]impl.Vector{nil, {}} {
		list, ok := impl.RunPoints(p, none)
		equal(t, "RunPoints of no points succeeds", ok, true)
		equal(t, "numbers of no points", len(list), 0)
		list, ok = impl.RunBlock(p, none)
		failsList(t, "RunBlock of no points", list, ok)
	}
}

func TestOddPointsOfPrograms(t *testing.T) {
	p := program(1, 1, toLeaf(0, 0, ball(1)))
	for _, c := range []struct {
		at   impl.Vector
		want float32
	}{
		{vec(minusZero, 0, minusZero), -1}, {vec(infinite, 0, 0), infinite}, {vec(0, -infinite, 1), infinite}, {vec(0, 0, notNumber), notNumber},
		{vec(num(0x7f800001), 1, 1), notNumber}, {vec(num(0x7f7fffff), 0, 0), infinite}, {vec(num(1), num(0x80000001), 0), -1},
	} {
		runsTo(t, fmt.Sprint("a ball at ", c.at), p, c.at, c.want)
	}
	scaled := program(2, 1, toPoint(1, 0, alone(impl.NodeScale, num(1))), toLeaf(0, 1, plane(1, 1, 1, 0)), toMix(0, 0, 0, alone(impl.NodeScale, num(1))))
	runsTo(t, "the least scale", scaled, vec(1, 0, 0), infinite)
	runsTo(t, "the least scale, no number", scaled, vec(1, -1, 0), notNumber)
	runsTo(t, "the least scale, a zero", scaled, vec(minusZero, minusZero, minusZero), minusZero)
}
