package tests

import (
	"fmt"
	"math"
	"math/rand"
	"strings"
	"testing"

	"loop.example/g01193/impl"
)

// TestExamplesOfChapter4 asserts the examples at the end of the chapter.
func TestExamplesOfChapter4(t *testing.T) {
	s := shape(ball(1))
	r, ok := impl.RangeIn(s, box(vec(1, 0, 0), vec(2, 0, 0)))
	equal(t, "RangeIn succeeds", ok, true)
	sameRange(t, "the range of the ball", r, pair{0, 1})
	sign, ok := impl.SignIn(s, box(vec(2, 2, 2), vec(3, 3, 3)))
	equal(t, "SignIn succeeds", ok, true)
	equal(t, "its sign", sign, 1)
}

// toldNodes fills in the distances of a node and of all below it, and tells whether none is a not-a-number.
func toldNodes(s impl.Shape, index int64, p impl.Vector, distances []float32) bool {
	n := s.Nodes[index]
	good := true
	switch kindRows()[n.Kind].children {
	case 1:
		good = toldNodes(s, n.A, toldPoint(n, p), distances)
	case 2:
		first, second := toldNodes(s, n.A, p, distances), toldNodes(s, n.B, p, distances)
		good = first && second
	}
	distances[index], _ = toldDistance(s, index, p)
	return good && !math.IsNaN(float64(distances[index]))
}

// boundsHold checks the distances at a point of a box, if none is a not-a-number, and tells whether this is so.
func boundsHold(t *testing.T, s, simple impl.Shape, b impl.Box, ranges []impl.Range, p impl.Vector) bool {
	t.Helper()
	distances := make([]float32, len(s.Nodes))
	if !toldNodes(s, int64(len(s.Nodes))-1, p, distances) {
		return false
	}
	for i, d := range distances {
		if !(ranges[i].Low <= d && d <= ranges[i].High) {
			t.Fatalf("the distance of the node %d of %v is %v at %v, but %v in %v", i, s, d, p, ranges[i], b)
		}
	}
	want := distances[len(distances)-1]
	if got, ok := impl.DistanceAt(simple, p); !ok || bitsOf(got) != bitsOf(want) {
		t.Fatalf("the distance of %v at %v is %v, but that of %v, simplified in %v, is %v", s, p, want, simple, b, got)
	}
	if sign, _ := impl.SignIn(s, b); sign < 0 && !(want < 0) || sign > 0 && !(want > 0) {
		t.Fatalf("the distance of %v at %v is %v, but its sign in %v is %v", s, p, want, b, sign)
	}
	return true
}

// TestDistancesAreInRanges is the promise of the chapter, for shapes and boxes of all sizes.
func TestDistancesAreInRanges(t *testing.T) {
	r := rand.New(rand.NewSource(46))
	numbers := manyNumbers(100)
	points, simpler := 0, 0
	for i := range 4000 {
		s, b := randomShape(r, 1+i%impl.MaxNodes, kindRows()), randomBox(r, 6)
		if i%4 == 1 {
			s = oddShape(r, s, numbers)
		}
		if i%4 > 1 {
			b = oddBox(r, numbers)
		}
		ranges, ok := impl.RangesIn(s, b)
		equal(t, "RangesIn succeeds", ok, true)
		simple, ok := impl.SimplifyIn(s, b)
		equal(t, "SimplifyIn succeeds", ok, true)
		if len(simple.Nodes) < len(s.Nodes) {
			simpler++
		}
		for range 12 {
			p := pointIn(r, b)
			equal(t, "the point is in the box", impl.IsInBox(b, p), true)
			if boundsHold(t, s, simple, b, ranges, p) {
				points++
			}
		}
	}
	if points < 25000 || simpler < 750 {
		t.Errorf("only %d points and %d shapes that were simplified", points, simpler)
	}
}

// TestKindsAreInRanges does this for each kind alone, so that no node above hides what is wrong below.
func TestKindsAreInRanges(t *testing.T) {
	r := rand.New(rand.NewSource(47))
	numbers := manyNumbers(100)
	for _, row := range kindRows() {
		for i := range 1500 {
			axis := int64(0)
			if row.axis {
				axis = int64(i % 3)
			}
			s, b := underRow(row, axis, randomNumbers(r, row)), randomBox(r, 6)
			if row.children > 0 {
				s.Nodes[0] = []impl.Node{ball(1), probe(i % 3), plane(-0.5, 2, 1, 1), node(impl.NodeBox, 0, 0, 1, 0.5, 2)}[i%4]
			}
			if i%2 == 1 {
				s, b = oddShape(r, s, numbers), oddBox(r, numbers)
			}
			ranges, _ := impl.RangesIn(s, b)
			simple, _ := impl.SimplifyIn(s, b)
			for range 10 {
				boundsHold(t, s, simple, b, ranges, pointIn(r, b))
			}
		}
	}
}

// TestRangesOfPointsAreExact checks that the range in a box of one point is no wider than the distance there.
func TestRangesOfPointsAreExact(t *testing.T) {
	r := rand.New(rand.NewSource(48))
	for i := range 3000 {
		s, p := randomShape(r, 1+i%impl.MaxNodes, kindRows()), randomPoint(r, 6)
		got, ok := impl.RangeIn(s, box(p, p))
		equal(t, "RangeIn succeeds", ok, true)
		d, _ := toldDistance(s, int64(len(s.Nodes))-1, p)
		if got.Low != d || got.High != d {
			t.Fatalf("the range of %v at %v is %v, though the distance is %v", s, p, got, d)
		}
	}
}

// TestSurfacesAreInBoxes walks through boxes on lines: where the sign changes, and in between, there are boxes that stay.
func TestSurfacesAreInBoxes(t *testing.T) {
	r := rand.New(rand.NewSource(49))
	changes := 0
	for i := range 1500 {
		s := randomShape(r, 1+i%impl.MaxNodes, kindRows())
		b := box(toldTake(randomPoint(r, 1), vec(3, 3, 3)), toldAdd(randomPoint(r, 1), vec(3, 3, 3)))
		splits := int64(i % (impl.MaxSplits + 1))
		boxes, ok := impl.SurfaceBoxes(s, b, splits)
		equal(t, "SurfaceBoxes succeeds", ok, true)
		from, to, ok := impl.CrossingAt(s, pointIn(r, b), pointIn(r, b), 60)
		if !ok {
			continue
		}
		changes++
		held := false
		for _, left := range boxes {
			// The two points are neighbours, so they can be in two boxes of which one only was left out.
			held = held || impl.IsInBox(left, from) || impl.IsInBox(left, to)
		}
		equal(t, fmt.Sprint("the surface of ", s, " between ", from, " and ", to, " is in one of ", boxes), held, true)
	}
	if changes < 200 {
		t.Errorf("only %d changes of signs", changes)
	}
}

// resultsOfBoxes writes down what the functions of the chapter return, bit for bit.
func resultsOfBoxes(s impl.Shape, a, b impl.Box, p impl.Vector, by float32, splits int64, points []impl.Vector) string {
	var out strings.Builder
	number := func(list ...float32) {
		for _, x := range list {
			fmt.Fprintf(&out, "%08x ", bitsOf(x))
		}
	}
	write := func(boxes ...impl.Box) {
		for _, b := range boxes {
			number(b.Low.X, b.Low.Y, b.Low.Z, b.High.X, b.High.Y, b.High.Z)
		}
	}
	writeOne := func(b impl.Box, ok bool) {
		write(b)
		fmt.Fprint(&out, ok)
	}
	ranges := func(list ...impl.Range) {
		for _, r := range list {
			number(r.Low, r.High)
		}
	}
	fmt.Fprint(&out, impl.ValidBox(a), impl.IsInBox(a, p), impl.IsInBox(b, p))
	writeOne(impl.BoxAround(points))
	writeOne(impl.GrowBox(a, by))
	writeOne(impl.CutBoxes(a, b))
	first, second, ok := impl.SplitBox(a)
	write(first, second)
	fmt.Fprint(&out, ok)
	ranges(impl.SizeRange(impl.Range{Low: by, High: p.X}))
	ranges(impl.LongRange(impl.Range{Low: by, High: p.X}, impl.Range{Low: p.Y, High: p.Z}, impl.Range{Low: p.X, High: p.Y}))
	all, ok := impl.RangesIn(s, a)
	ranges(all...)
	fmt.Fprint(&out, ok, len(all))
	root, ok := impl.RangeIn(s, a)
	ranges(root)
	fmt.Fprint(&out, ok)
	fmt.Fprint(&out, fmt.Sprint(impl.SignIn(s, a)))
	simple, ok := impl.SimplifyIn(s, a)
	for _, n := range simple.Nodes {
		fmt.Fprint(&out, n.Kind, n.A, n.B, ":")
		number(n.Numbers...)
	}
	fmt.Fprint(&out, ok)
	left, ok := impl.SurfaceBoxes(s, a, splits)
	write(left...)
	fmt.Fprint(&out, ok, len(left))
	return out.String()
}

// TestBoxesReturnEqualResults calls every function of the chapter with all sorts of arguments, twice.
func TestBoxesReturnEqualResults(t *testing.T) {
	r := rand.New(rand.NewSource(50))
	boxes := append(someBoxes(r, 30), invalidBoxes()...)
	vectors, numbers := manyVectors(100), manyNumbers(100)
	integers := []int64{0, 1, 2, 6, 7, -1, 1 << 32, math.MaxInt64, math.MinInt64}
	for i, s := range someShapes() {
		for j, a := range boxes {
			b := boxes[(i*7+j*3+1)%len(boxes)]
			p, by, splits := vectors[(i*31+j)%len(vectors)], numbers[(i*13+j*5)%len(numbers)], integers[(i+j)%len(integers)]
			list := make([]impl.Vector, lengthOf(int64(i*7+j)))
			for k := range list {
				list[k] = vec(float32(k%7), by, 0)
			}
			first := resultsOfBoxes(s, a, b, p, by, splits, list)
			equal(t, "functions of boxes", resultsOfBoxes(copyShape(s), a, b, p, by, splits, list), first)
		}
		a, b := boxes[i%len(boxes)], boxes[(i+1)%len(boxes)]
		equal(t, "functions of boxes", resultsOfBoxes(s, a, b, vectors[i], 1, 2, nil), resultsOfBoxes(s, a, b, vectors[i], 1, 2, []impl.Vector{}))
	}
}

func TestBoxesChangeNothing(t *testing.T) {
	for _, row := range kindRows() {
		for _, s := range []impl.Shape{underRow(row, 0, row.numbers), chain(16), shape(ball(-1))} {
			given, kept := roomy(s)
			list := points(300, vec(-3, 5, 1), vec(2, -7, 0))
			for _, b := range []impl.Box{cube(-2, 2), cube(4, 5), cube(0, 0.25), cube(1, -1)} {
				resultsOfBoxes(given, b, cube(0, 1), vec(0, 0, 0), 0.5, 6, list[:200])
			}
			equal(t, "the shape is as it was", kept(), true)
			for i, p := range list {
				sameVector(t, "a point of the list", p, points(300, vec(-3, 5, 1), vec(2, -7, 0))[i])
			}
		}
	}
}

// TestListsOfBoxesAreNew changes what was returned, which must not change what was given, nor what is returned later.
func TestListsOfBoxesAreNew(t *testing.T) {
	s := shape(ball(1), node(impl.NodeScale, 0, 0, 2), ball(2), node(impl.NodeMove, 2, 0, 40, 0, 0), node(impl.NodeUnion, 1, 3))
	kept := copyShape(s)
	for _, b := range []impl.Box{cube(-3, 3), cube(-40, 40)} {
		first, _ := impl.SimplifyIn(s, b)
		second, _ := impl.SimplifyIn(s, b)
		want := copyShape(first)
		overwrite(t, first)
		third, _ := impl.SimplifyIn(s, b)
		equal(t, "the shape that was given", equalShapes(s, kept), true)
		equal(t, "the shape that was returned before", equalShapes(second, want), true)
		equal(t, "the shape that is returned later", equalShapes(third, want), true)

		ranges, _ := impl.RangesIn(s, b)
		before, _ := impl.RangesIn(s, b)
		clear(ranges[:cap(ranges)])
		later, _ := impl.RangesIn(s, b)
		equal(t, "ranges", fmt.Sprint(before), fmt.Sprint(later))

		boxes, _ := impl.SurfaceBoxes(s, b, 4)
		boxesBefore, _ := impl.SurfaceBoxes(s, b, 4)
		clear(boxes[:cap(boxes)])
		boxesLater, _ := impl.SurfaceBoxes(s, b, 4)
		equal(t, "there are boxes", len(boxesLater) > 0, true)
		sameBoxes(t, "boxes", boxesBefore, boxesLater)
	}
	equal(t, "the shape that was given", equalShapes(s, kept), true)
}
