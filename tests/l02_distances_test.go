package tests

import (
	"fmt"
	"testing"

	"loop.example/g01193/impl"
)

// zeros tells the sign of a coordinate that a probe reads, as sums with +0 would not.
func zeros(axis int, x float32) impl.Vector {
	at := [3]float32{minusZero, minusZero, minusZero}
	at[axis] = x
	return vec(at[0], at[1], at[2])
}

func distanceIs(t *testing.T, what string, s impl.Shape, p impl.Vector, want float32) {
	t.Helper()
	got, ok := impl.DistanceAt(s, p)
	succeeds(t, fmt.Sprint(what, " at ", p), got, ok, want)
	equal(t, fmt.Sprint(what, ", inside at ", p), impl.IsInside(s, p), want < 0)
	list, ok := impl.DistancesAt(s, []impl.Vector{p})
	equal(t, "DistancesAt succeeds", ok, true)
	sameList(t, what, list, []float32{want})
}

func TestLeafDistances(t *testing.T) {
	box := func(u, v, w float32) impl.Node { return node(impl.NodeBox, 0, 0, u, v, w) }
	tube := node(impl.NodeTube, 0, 0, 2, 1)
	ring := node(impl.NodeRing, 0, 0, 3, 1)
	plane := node(impl.NodePlane, 0, 0, 0, 2, 0, 1)
	for _, c := range []struct {
		leaf impl.Node
		p    impl.Vector
		want float32
	}{
		{ball(1), vec(3, 4, 0), 4}, {ball(1), vec(0, 0, 0), -1}, {ball(1), vec(0, -1, 0), 0}, {ball(0), vec(minusZero, minusZero, minusZero), 0},
		{ball(minusZero), vec(0, 0, 0), 0}, {ball(1), vec(infinite, 0, -infinite), infinite}, {ball(1), vec(0, notNumber, 0), notNumber},
		{ball(1), vec(1e30, 0, 0), infinite}, {ball(0), vec(1e-30, 0, 0), 0}, {ball(num(0x7f7fffff)), vec(3, 0, 0), -num(0x7f7fffff)},
		{box(1, 1, 1), vec(4, 5, 0), 5}, {box(1, 1, 1), vec(0, 0, 0), -1}, {box(1, 2, 3), vec(0, 0, 0), -1}, {box(2, 1, 3), vec(0, 0, 0), -1},
		{box(3, 2, 1), vec(0, 0, 0), -1}, {box(1, 2, 3), vec(0, -1.5, 0), -0.5}, {box(1, 2, 3), vec(0, 0, 2.75), -0.25}, {box(1, 2, 3), vec(-0.75, 0, 0), -0.25},
		{box(1, 2, 3), vec(-4, 0, 7), 5}, {box(1, 2, 3), vec(3, 5, 9), 7}, {box(1, 1, 1), vec(1, 0, 0), 0}, {box(0, 0, 0), vec(minusZero, minusZero, minusZero), 0},
		// A coordinate that is a not-a-number is greater than nothing, and X is the first one of the greater ones.
		{box(1, 1, 1), vec(notNumber, 0, 0), 0}, {box(1, 1, 1), vec(0, notNumber, 0), -1}, {box(1, 1, 1), vec(0, 0, notNumber), -1}, {box(1, 1, 1), vec(notNumber, 4, 5), 5},
		{box(1, 1, 1), vec(notNumber, notNumber, notNumber), 0}, {box(1, 1, 1), vec(0, -infinite, 0), infinite},
		{tube, vec(3, 1, 0), 2}, {tube, vec(0, 5, 0), 2}, {tube, vec(0, -4, 0), 3}, {tube, vec(0, 2, 0), -1}, {tube, vec(0, 0, 0), -1}, {tube, vec(3, 6, 0), 4}, {tube, vec(0, -3, -4), 4},
		{tube, vec(0, infinite, 0), infinite}, {tube, vec(0, notNumber, 0), notNumber}, {tube, vec(0, 1, notNumber), notNumber}, {node(impl.NodeTube, 0, 0, 0, 1), vec(0, 3, 0), 2},
		{ring, vec(3, 2, 0), 1}, {ring, vec(0, 0, 0), 2}, {ring, vec(0, 0, -3), -1}, {ring, vec(4, 0, 0), 0}, {ring, vec(0, -4, 0), 4}, {ring, vec(6, 4, 0), 4}, {ring, vec(0, notNumber, 0), notNumber},
		{plane, vec(0, 3, 0), 5}, {plane, vec(7, 0, -7), -1}, {plane, vec(0, 0.5, 0), 0}, {plane, vec(infinite, 0, 0), notNumber}, {plane, vec(0, -infinite, 0), -infinite},
		{node(impl.NodePlane, 0, 0, 1, 1, 1, 0), vec(minusZero, minusZero, minusZero), minusZero}, {node(impl.NodePlane, 0, 0, 0, 0, 0, -2), vec(1, 2, 3), 2},
	} {
		distanceIs(t, fmt.Sprint(c.leaf), shape(c.leaf), c.p, c.want)
	}
}

// bothZeros has two leaves whose distances at -0, -0, -0 are +0 and -0, and a node above them.
func bothZeros(kind, a, b int64, numbers ...float32) impl.Shape {
	return shape(ball(0), node(impl.NodePlane, 0, 0, 1, 1, 1, 0), node(kind, a, b, numbers...))
}

// TestEqualDistances checks that the first one of two equal distances counts.
func TestEqualDistances(t *testing.T) {
	at := vec(minusZero, minusZero, minusZero)
	for _, kind := range []int64{impl.NodeUnion, impl.NodeCut, impl.NodeLess} {
		distanceIs(t, "+0 and -0", bothZeros(kind, 0, 1), at, 0)
		distanceIs(t, "-0 and +0", bothZeros(kind, 1, 0), at, minusZero)
	}
	distanceIs(t, "+0 and -0, smooth", bothZeros(impl.NodeSmooth, 0, 1, num(1)), at, 0)
	distanceIs(t, "-0 and +0, smooth", bothZeros(impl.NodeSmooth, 1, 0, num(1)), at, minusZero)
	for _, kind := range []int64{impl.NodeUnion, impl.NodeCut, impl.NodeLess, impl.NodeSmooth} {
		var numbers []float32
		if kind == impl.NodeSmooth {
			numbers = []float32{1}
		}
		for _, a := range []int64{0, 1} {
			leafIs(t, "leaf of both zeros", bothZeros(kind, a, 1-a, numbers...), at, a)
			// At this point, the ball is 0 and what is taken away is 0 too.
			leafIs(t, "leaf of two balls", shape(ball(1), ball(1), node(kind, a, 1-a, numbers...)), vec(1, 0, 0), a)
		}
	}
	leafIs(t, "two balls", shape(ball(1), ball(1), node(impl.NodeCut, 1, 0)), vec(7, 0, 0), 1)
	leafIs(t, "ball less plane", shape(ball(1), probe(0), node(impl.NodeLess, 0, 1)), vec(0.5, 0, 0), 0)
	leafIs(t, "plane less ball", shape(ball(1), probe(0), node(impl.NodeLess, 1, 0)), vec(0.5, 0, 0), 1)
}

func leafIs(t *testing.T, what string, s impl.Shape, p impl.Vector, want int64) {
	t.Helper()
	got, ok := impl.LeafAt(s, p)
	equal(t, what+" succeeds", ok, true)
	equal(t, fmt.Sprint(what, " of ", s, " at ", p), got, want)
}

func TestLeafAt(t *testing.T) {
	move := func(a int64, x float32) impl.Node { return node(impl.NodeMove, a, 0, x, 0, 0) }
	two := shape(ball(1), ball(1), move(0, 4), move(1, -4), node(impl.NodeUnion, 2, 3))
	for _, c := range []struct {
		what string
		s    impl.Shape
		p    impl.Vector
		want int64
	}{
		{"one", shape(ball(1)), vec(5, 0, 0), 0}, {"a chain", chain(16), vec(5, 0, 0), 0},
		{"to the right", two, vec(1, 0, 0), 0}, {"to the left", two, vec(-1, 0, 0), 1}, {"in between", two, vec(0, 0, 0), 0},
		{"turned", shape(append(two.Nodes, node(impl.NodeTurn, 4, 2, 0.5))...), vec(1, 0, 0), 1},
		{"mirrored", shape(append(two.Nodes, node(impl.NodeMirror, 4, 0))...), vec(-1, 0, 0), 0},
		{"moved", shape(append(two.Nodes, move(4, 2))...), vec(1, 0, 0), 1},
		{"folded", shape(append(two.Nodes, node(impl.NodeFold, 4, 0, 2))...), vec(-3, 0, 0), 0},
		{"scaled", shape(append(two.Nodes, node(impl.NodeScale, 4, 0, 2))...), vec(-3, 0, 0), 1},
		{"less, what stays", shape(ball(3), ball(1), node(impl.NodeLess, 0, 1)), vec(2.5, 0, 0), 0},
		{"less, what is away", shape(ball(3), ball(1), node(impl.NodeLess, 0, 1)), vec(1.5, 0, 0), 1},
		{"cut", shape(ball(1), ball(2), node(impl.NodeCut, 1, 0)), vec(0, 0, 0), 0},
		{"smooth, the lesser one", shape(ball(1), ball(2), node(impl.NodeSmooth, 0, 1, 9)), vec(0, 0, 0), 1},
		{"smooth, the other one", shape(ball(1), ball(2), node(impl.NodeSmooth, 1, 0, 9)), vec(0, 0, 0), 1},
		{"deep", shape(ball(1), ball(2), node(impl.NodeLess, 1, 0), ball(3), node(impl.NodeUnion, 3, 2), node(impl.NodeShell, 4, 0, 1), probe(0), node(impl.NodeCut, 5, 6)), vec(-9, 0, 0), 3},
		// The size of a distance decides nothing below the shell: it is the leaf of the distance there.
		{"in a shell", shape(ball(1), ball(2), node(impl.NodeUnion, 0, 1), node(impl.NodeShell, 2, 0, 1)), vec(0, 0, 0), 1},
		{"a not-a-number first", shape(ball(1), node(impl.NodeBox, 0, 0, 1, 1, 1), node(impl.NodeUnion, 0, 1)), vec(0, notNumber, 0), 0},
		{"a not-a-number second", shape(ball(1), node(impl.NodeBox, 0, 0, 1, 1, 1), node(impl.NodeCut, 1, 0)), vec(0, notNumber, 0), 1},
	} {
		leafIs(t, c.what, c.s, c.p, c.want)
	}
}

func TestPairDistances(t *testing.T) {
	pair := func(kind int64, a, b float32, numbers ...float32) impl.Shape {
		return shape(node(impl.NodePlane, 0, 0, 0, 0, 0, -a), node(impl.NodePlane, 0, 0, 0, 0, 0, -b), node(kind, 0, 1, numbers...))
	}
	for _, c := range []struct {
		s    impl.Shape
		want float32
	}{
		{pair(impl.NodeUnion, 2, 3), 2}, {pair(impl.NodeUnion, 3, 2), 2}, {pair(impl.NodeUnion, -3, 2), -3}, {pair(impl.NodeCut, 2, 3), 3}, {pair(impl.NodeCut, 3, -4), 3},
		{pair(impl.NodeLess, 2, 3), 2}, {pair(impl.NodeLess, -2, 1), -1}, {pair(impl.NodeLess, -2, -1), 1}, {pair(impl.NodeLess, -2, 5), -2},
		{pair(impl.NodeSmooth, 1, 1, 1), 0.75}, {pair(impl.NodeSmooth, 1, 1, 2), 0.5}, {pair(impl.NodeSmooth, 1, 1.5, 1), 0.9375}, {pair(impl.NodeSmooth, 1.5, 1, 1), 0.9375},
		// At the edge, where h is 0, and beyond it, nothing is taken away.
		{pair(impl.NodeSmooth, 1, 2, 1), 1}, {pair(impl.NodeSmooth, 3, 2, 1), 2}, {pair(impl.NodeSmooth, 1, 9, 1), 1}, {pair(impl.NodeSmooth, 9, 1, 1), 1},
		// h h and 4 k are made on their own: both are too great here, or too little.
		{pair(impl.NodeSmooth, 1, 1, num(0x7f7fffff)), notNumber}, {pair(impl.NodeSmooth, 1, 1, 1e30), -infinite}, {pair(impl.NodeSmooth, 1, 1, num(1)), 1},
		{pair(impl.NodeSmooth, 1e38, 1e38, 1e-38), 1e38},
	} {
		distanceIs(t, fmt.Sprint(c.s), c.s, impl.Vector{}, c.want)
	}
	box := node(impl.NodeBox, 0, 0, 1, 1, 1)
	for _, kind := range []int64{impl.NodeUnion, impl.NodeCut, impl.NodeLess} {
		distanceIs(t, "a not-a-number first", shape(ball(1), box, node(kind, 0, 1)), vec(0, notNumber, 0), notNumber)
		distanceIs(t, "a not-a-number second", shape(ball(1), box, node(kind, 1, 0)), vec(0, notNumber, 0), -1)
	}
	distanceIs(t, "a smooth not-a-number", shape(ball(1), box, node(impl.NodeSmooth, 0, 1, 1)), vec(0, notNumber, 0), notNumber)
	distanceIs(t, "a smooth not-a-number second", shape(ball(1), box, node(impl.NodeSmooth, 1, 0, 1)), vec(0, notNumber, 0), -1)
	distanceIs(t, "two infinities", shape(ball(1), box, node(impl.NodeSmooth, 0, 1, 1)), vec(infinite, 0, 0), infinite)
}

func TestWrapDistances(t *testing.T) {
	wrap := func(kind, axis int64, numbers ...float32) impl.Shape {
		return shape(ball(1), node(kind, 0, axis, numbers...))
	}
	for _, c := range []struct {
		s    impl.Shape
		p    impl.Vector
		want float32
	}{
		{wrap(impl.NodeMove, 0, 5, 0, 0), vec(5, 0, 0), -1}, {wrap(impl.NodeMove, 0, 1, 2, 3), vec(1, 2, 8), 4}, {wrap(impl.NodeMove, 0, -5, 0, 0), vec(5, 0, 0), 9},
		{wrap(impl.NodeMove, 0, 1e38, 0, 0), vec(infinite, 0, 0), infinite},
		{wrap(impl.NodeScale, 0, 2), vec(4, 0, 0), 2}, {wrap(impl.NodeScale, 0, 0.5), vec(0, 4, 0), 3.5}, {wrap(impl.NodeScale, 0, 2), vec(0, 0, 0), -2},
		{wrap(impl.NodeScale, 0, num(1)), vec(0, 0, 1), infinite}, {wrap(impl.NodeScale, 0, num(1)), vec(0, 0, 0), -num(1)},
		{wrap(impl.NodeStretch, 0, 2, 1, 1), vec(4, 0, 0), 1}, {wrap(impl.NodeStretch, 0, 1, 2, 4), vec(0, 4, 0), 1}, {wrap(impl.NodeStretch, 0, 1, 2, 4), vec(0, 0, 4), 0},
		{wrap(impl.NodeRound, 0, 0.5), vec(4, 0, 0), 2.5}, {wrap(impl.NodeRound, 0, -0.5), vec(4, 0, 0), 3.5}, {wrap(impl.NodeRound, 0, 0), vec(1, 0, 0), 0},
		{wrap(impl.NodeShell, 0, 0.25), vec(0, 0, 0), 0.75}, {wrap(impl.NodeShell, 0, 0.25), vec(3, 0, 0), 1.75}, {wrap(impl.NodeShell, 0, 0.25), vec(1, 0, 0), -0.25},
		{wrap(impl.NodeShell, 0, 0.25), vec(notNumber, 0, 0), notNumber}, {wrap(impl.NodeRound, 0, 1), vec(infinite, 0, 0), infinite},
		{shape(node(impl.NodePlane, 0, 0, 1, 1, 1, 0), node(impl.NodeShell, 0, 0, 0)), vec(minusZero, minusZero, minusZero), minusZero},
		{shape(node(impl.NodePlane, 0, 0, 1, 1, 1, 0), node(impl.NodeRound, 0, 0, minusZero)), vec(minusZero, minusZero, minusZero), 0},
		{shape(node(impl.NodePlane, 0, 0, 1, 1, 1, 0), node(impl.NodeRound, 0, 0, 0)), vec(minusZero, minusZero, minusZero), minusZero},
	} {
		distanceIs(t, fmt.Sprint(c.s), c.s, c.p, c.want)
	}
}

// TestTurns reads the coordinates of turned points.
func TestTurns(t *testing.T) {
	for axis := range 3 {
		first, second := (axis+1)%3, (axis+2)%3
		turned := func(read int, turns float32) impl.Shape {
			return shape(probe(read), node(impl.NodeTurn, 0, int64(axis), turns))
		}
		at := func(i, j float32) impl.Vector {
			p := [3]float32{minusZero, minusZero, minusZero}
			p[first], p[second] = i, j
			return vec(p[0], p[1], p[2])
		}
		// A quarter of a turn leads from the first axis to the second one, so the point goes back.
		distanceIs(t, "the first one", turned(first, 0.25), at(2, 3), 3)
		distanceIs(t, "the second one", turned(second, 0.25), at(2, 3), -2)
		distanceIs(t, "the first one, back", turned(first, -0.25), at(2, 3), -3)
		distanceIs(t, "the second one, back", turned(second, 0.75), at(2, 3), 2)
		distanceIs(t, "the axis itself", turned(axis, 0.25), zeros(axis, 5), 5)
		distanceIs(t, "the axis itself, -0", turned(axis, 0.25), zeros(axis, minusZero), 0)
		distanceIs(t, "no turn, the first one", turned(first, 0), at(2, 3), 2)
		distanceIs(t, "no turn, the second one", turned(second, 0), at(2, 3), 3)
		// A turn by a great number has no places behind the point, and 0.25 less it neither: both sines are 0.
		distanceIs(t, "a great turn", turned(first, 1<<40), at(2, 3), 0)
		distanceIs(t, "an infinite coordinate", turned(first, 0), at(1, infinite), notNumber)
		distanceIs(t, "a not-a-number", turned(first, 0.125), at(notNumber, 1), notNumber)
	}
}

// TestMirrors reads the coordinates of mirrored points, of which -0 stays as it is.
func TestMirrors(t *testing.T) {
	for axis := range 3 {
		mirrored := shape(probe(axis), node(impl.NodeMirror, 0, int64(axis)))
		for _, c := range [][2]float32{{2, 2}, {-2, 2}, {0, 0}, {minusZero, minusZero}, {-num(1), num(1)}, {-infinite, infinite}, {notNumber, notNumber}} {
			distanceIs(t, "a mirrored coordinate", mirrored, zeros(axis, c[0]), c[1])
			other := (axis + 1) % 3
			distanceIs(t, "another coordinate", shape(probe(other), node(impl.NodeMirror, 0, int64(axis))), zeros(other, -3), -3)
		}
	}
}

// TestFolds reads the coordinates of folded points.
func TestFolds(t *testing.T) {
	most := num(0x7f7fffff)
	for axis := range 3 {
		for _, c := range []struct{ s, at, want float32 }{
			{1, 0.5, 0.5}, {1, 1.5, 0.5}, {1, 2, 0}, {1, 2.25, 0.25}, {1, 8, 0}, {1, 7.75, 0.25}, {0.25, 0.375, 0.125}, {3, 7, 1},
			{1, -0.5, 0.5}, {1, -1.5, 0.5}, {1, -2, 0}, {1, -2.25, 0.25}, {1, -8, 0}, {3, -7, 1}, {3, -11, 1},
			{1, 1, 1}, {1, 3, 1}, {1, 5, 1}, {1, -1, 1}, {1, -3, 1}, {1, -5, 1},
			// The integer has a sign for zeros too, so -0 less it is +0.
			{1, 0, 0}, {1, minusZero, 0}, {most, num(1), notNumber}, {1, -num(1), num(1)}, {1, num(1), num(1)},
			{1, infinite, notNumber}, {1, -infinite, notNumber}, {1, notNumber, notNumber},
			{most, 1, notNumber}, {most, minusZero, notNumber}, {1e-10, 1e38, infinite}, {1e-10, -1e38, infinite}, {num(1), num(3), num(1)}, {num(1), num(4), 0},
			{1, 16777216, 0}, {1, 8388609, 1}, {1, 8388611, 1},
		} {
			what := fmt.Sprint("a fold by ", c.s)
			distanceIs(t, what, shape(probe(axis), node(impl.NodeFold, 0, int64(axis), c.s)), zeros(axis, c.at), c.want)
			other := (axis + 2) % 3
			distanceIs(t, "another coordinate", shape(probe(other), node(impl.NodeFold, 0, int64(axis), 1)), zeros(other, -7), -7)
		}
	}
}

// TestFoldsAtTies has coordinates whose quotient is a tie, but from which one side is nearer than the other after
// rounding: the even integer counts.
func TestFoldsAtTies(t *testing.T) {
	for _, c := range []struct{ at, s, want uint32 }{
		{0x43086986, 0x3f904dc7, 0x3f904d80}, {0x423d717b, 0x3ff27cc6, 0x3ff27ce0}, {0x43a790be, 0x3fecffa2, 0x3fed0000}, {0x41cf28f9, 0x3f84951a, 0x3f849520},
		{0x43782d3e, 0x3fad968d, 0x3fad9680}, {0x43917b00, 0x3fea3b93, 0x3fea3c00}, {0x43426c4f, 0x3fa08e4b, 0x3fa08e00}, {0x42e99e70, 0x3fb423cf, 0x3fb42400},
	} {
		folded := shape(probe(0), node(impl.NodeFold, 0, 0, num(c.s)))
		distanceIs(t, "a tie", folded, zeros(0, num(c.at)), num(c.want))
		distanceIs(t, "a tie below 0", folded, zeros(0, -num(c.at)), num(c.want))
	}
}

func TestDistancesAtTheLimits(t *testing.T) {
	for _, s := range []impl.Shape{shape(ball(1)), chain(16)} {
		for _, count := range []int{0, 1, 2, 255, 256} {
			points := make([]impl.Vector, count)
			want := make([]float32, count)
			for i := range points {
				points[i].Y = float32(i) - 100
				want[i], _ = impl.DistanceAt(s, points[i])
			}
			got, ok := impl.DistancesAt(s, points)
			equal(t, fmt.Sprint("DistancesAt ", count, " points"), ok, true)
			sameList(t, "the distances", got, want)
		}
		for _, count := range []int{257, 100000} {
			got, ok := impl.DistancesAt(s, make([]impl.Vector, count))
			failsList(t, fmt.Sprint("DistancesAt ", count, " points"), got, ok)
		}
		got, ok := impl.DistancesAt(s, nil)
		equal(t, "DistancesAt no points", ok, true)
		equal(t, "their distances", len(got), 0)
	}
	distanceIs(t, "a chain", chain(16), vec(20, 0, 0), 11.5)
}

func TestFactorOf(t *testing.T) {
	plane := node(impl.NodePlane, 0, 0, 0, 3, 4, 9)
	stretch := func(a int64, u, v, w float32) impl.Node { return node(impl.NodeStretch, a, 0, u, v, w) }
	for _, c := range []struct {
		s    impl.Shape
		want float32
	}{
		{shape(plane), 5}, {shape(node(impl.NodePlane, 0, 0, 0, 0, 0, 1)), 0}, {shape(node(impl.NodePlane, 0, 0, 1e30, 0, 0, 1)), infinite},
		{shape(ball(1), plane, node(impl.NodeUnion, 0, 1)), 5}, {shape(ball(1), plane, node(impl.NodeLess, 1, 0)), 5},
		{shape(ball(1), node(impl.NodePlane, 0, 0, 0.25, 0, 0, 1), node(impl.NodeSmooth, 0, 1, 3)), 1}, {shape(ball(1), ball(2), node(impl.NodeCut, 1, 0)), 1},
		{shape(ball(1), stretch(0, 2, 0.5, 4)), 2}, {shape(ball(1), stretch(0, 0.25, 0.5, 4)), 4}, {shape(ball(1), stretch(0, 4, 0.5, 0.125)), 8}, {shape(ball(1), stretch(0, 2, 4, 8)), 0.5},
		{shape(plane, stretch(0, 2, 0.5, 4)), 10}, {shape(ball(1), stretch(0, 2, 0.5, 4), stretch(1, 0.25, 1, 1)), 8}, {shape(ball(1), stretch(0, 3, 3, 3)), num(0x3eaaaaab)},
		{shape(ball(1), stretch(0, num(1), 1, 1)), infinite}, {shape(node(impl.NodePlane, 0, 0, 0, 0, 0, 1), stretch(0, num(1), 1, 1)), notNumber},
		{shape(node(impl.NodePlane, 0, 0, 0, 0, 0, 1), stretch(0, num(1), 1, 1), ball(1), node(impl.NodeUnion, 1, 2)), notNumber},
		{shape(node(impl.NodePlane, 0, 0, 0, 0, 0, 1), stretch(0, num(1), 1, 1), ball(1), node(impl.NodeUnion, 2, 1)), 1},
		{chain(16), 1},
	} {
		got, ok := impl.FactorOf(c.s)
		succeeds(t, fmt.Sprint("FactorOf ", c.s), got, ok, c.want)
	}
	for _, row := range kindRows() {
		s := underRow(row, 0, row.numbers)
		if row.children == 1 {
			s.Nodes[0] = plane
			if row.kind == impl.NodeStretch {
				continue
			}
		}
		got, ok := impl.FactorOf(s)
		want := map[int]float32{0: 1, 1: 5, 2: 1}[row.children]
		if row.kind == impl.NodePlane {
			want = toldLong(0.5, -2, 1)
		}
		succeeds(t, fmt.Sprint("FactorOf the kind ", row.kind), got, ok, want)
	}
}
