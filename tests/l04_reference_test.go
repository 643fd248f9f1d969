package tests

import (
	"fmt"
	"math"
	"math/rand"
	"slices"
	"testing"

	"loop.example/g01193/impl"
)

// These functions tell ranges once more, as the document does, from the root down, with the operations of the second
// version of the chapters before. A pair has Low and High.

type pair [2]float32

func toldSizes(r pair) pair {
	if r[0] > 0 {
		return r
	}
	if r[1] < 0 {
		return pair{turnSign(r[1]), turnSign(r[0])}
	}
	return pair{0, toldGreater(turnSign(r[0]), r[1])}
}

func toldLongs(x, y, z pair) pair {
	x, y, z = toldSizes(x), toldSizes(y), toldSizes(z)
	return pair{toldLong(x[0], y[0], z[0]), toldLong(x[1], y[1], z[1])}
}

func toldProducts(r pair, by float32) pair {
	low, high := product(r[0], by), product(r[1], by)
	if math.IsNaN(float64(low)) || math.IsNaN(float64(high)) {
		return pair{notNumber, notNumber}
	}
	return pair{toldLesser(low, high), toldGreater(low, high)}
}

func toldSums(a, b pair) pair { return pair{sum(a[0], b[0]), sum(a[1], b[1])} }

func toldDifferences(a, b pair) pair { return pair{difference(a[0], b[1]), difference(a[1], b[0])} }

func toldQuotients(r pair, by float32) pair { return pair{quotient(r[0], by), quotient(r[1], by)} }

func toldAlone(x float32) pair { return pair{x, x} }

func toldCoordinates(b impl.Box) [3]pair {
	return [3]pair{{b.Low.X, b.High.X}, {b.Low.Y, b.High.Y}, {b.Low.Z, b.High.Z}}
}

// toldBelow returns the coordinates for the child of a node with one child.
func toldBelow(n impl.Node, at [3]pair) [3]pair {
	switch n.Kind {
	case impl.NodeMove:
		for i := range at {
			at[i] = toldDifferences(at[i], toldAlone(n.Numbers[i]))
		}
	case impl.NodeScale:
		for i := range at {
			at[i] = toldQuotients(at[i], n.Numbers[0])
		}
	case impl.NodeStretch:
		for i := range at {
			at[i] = toldQuotients(at[i], n.Numbers[i])
		}
	case impl.NodeTurn:
		c, s := impl.SineTurns(difference(0.25, n.Numbers[0])), impl.SineTurns(n.Numbers[0])
		first, second := (n.B+1)%3, (n.B+2)%3
		i, j := at[first], at[second]
		at[first] = toldSums(toldProducts(i, c), toldProducts(j, s))
		at[second] = toldDifferences(toldProducts(j, c), toldProducts(i, s))
	case impl.NodeMirror:
		at[n.B] = toldSizes(at[n.B])
	case impl.NodeFold:
		at[n.B] = toldFolds(at[n.B], n.Numbers[0])
	}
	return at
}

func toldFolds(c pair, s float32) pair {
	double := product(2, s)
	var whole, place pair
	for i := range c {
		whole[i] = float32(math.RoundToEven(float64(quotient(c[i], double))))
		place[i] = product(double, whole[i])
	}
	if whole[0] == whole[1] {
		return toldSizes(pair{difference(c[0], place[0]), difference(c[1], place[1])})
	}
	for i := range c {
		if !(math.Abs(float64(whole[i])) <= 4194304) || !toldFinite(place[i]) {
			return pair{0, infinite}
		}
	}
	return pair{0, product(4, s)}
}

func toldLeafRange(n impl.Node, at [3]pair) pair {
	for _, c := range at {
		if !toldFinite(c[0], c[1]) {
			return pair{-infinite, infinite}
		}
	}
	numbers := n.Numbers
	x, y, z := at[0], at[1], at[2]
	switch n.Kind {
	case impl.NodeTube:
		for i := range y {
			y[i] = difference(y[i], toldLesser(toldGreater(0, y[i]), numbers[0]))
		}
		return toldDifferences(toldLongs(x, y, z), toldAlone(numbers[1]))
	case impl.NodeRing:
		flat := toldDifferences(toldLongs(x, pair{}, z), toldAlone(numbers[0]))
		return toldDifferences(toldLongs(flat, y, pair{}), toldAlone(numbers[1]))
	case impl.NodePlane:
		inner := toldSums(toldSums(toldProducts(x, numbers[0]), toldProducts(y, numbers[1])), toldProducts(z, numbers[2]))
		return toldDifferences(inner, toldAlone(numbers[3]))
	}
	x, y, z = toldSizes(x), toldSizes(y), toldSizes(z)
	return pair{toldLeaf(n, vec(x[0], y[0], z[0])), toldLeaf(n, vec(x[1], y[1], z[1]))}
}

func toldPairRange(n impl.Node, a, b pair) pair {
	switch n.Kind {
	case impl.NodeUnion:
		return pair{toldLesser(a[0], b[0]), toldLesser(a[1], b[1])}
	case impl.NodeCut:
		return pair{toldGreater(a[0], b[0]), toldGreater(a[1], b[1])}
	case impl.NodeLess:
		return pair{toldGreater(a[0], turnSign(b[1])), toldGreater(a[1], turnSign(b[0]))}
	}
	k := n.Numbers[0]
	h := toldDifferences(toldAlone(k), toldSizes(toldDifferences(a, b)))
	var f pair
	for i := range h {
		if h[i] > 0 {
			f[i] = quotient(product(h[i], h[i]), product(4, k))
		}
	}
	return toldDifferences(pair{toldLesser(a[0], b[0]), toldLesser(a[1], b[1])}, f)
}

// toldRanges fills in the ranges of a node and of all below it.
func toldRanges(s impl.Shape, index int64, at [3]pair, ranges []pair) pair {
	n := s.Nodes[index]
	var r pair
	switch kindRows()[n.Kind].children {
	case 0:
		r = toldLeafRange(n, at)
	case 2:
		r = toldPairRange(n, toldRanges(s, n.A, at, ranges), toldRanges(s, n.B, at, ranges))
	default:
		r = toldRanges(s, n.A, toldBelow(n, at), ranges)
		switch n.Kind {
		case impl.NodeScale:
			r = toldProducts(r, n.Numbers[0])
		case impl.NodeRound:
			r = toldDifferences(r, toldAlone(n.Numbers[0]))
		case impl.NodeShell:
			r = toldDifferences(toldSizes(r), toldAlone(n.Numbers[0]))
		}
	}
	if math.IsNaN(float64(r[0])) || math.IsNaN(float64(r[1])) {
		r = pair{-infinite, infinite}
	}
	ranges[index] = r
	return r
}

func toldRangesIn(s impl.Shape, b impl.Box) []pair {
	ranges := make([]pair, len(s.Nodes))
	toldRanges(s, int64(len(s.Nodes))-1, toldCoordinates(b), ranges)
	return ranges
}

func toldSign(s impl.Shape, b impl.Box) int64 {
	r := toldRangesIn(s, b)[len(s.Nodes)-1]
	switch {
	case r[1] < 0:
		return -1
	case r[0] > 0:
		return 1
	}
	return 0
}

// toldPlaceOf returns the node that takes the place of a node, itself or one below it.
func toldPlaceOf(s impl.Shape, ranges []pair, index int64) int64 {
	n := s.Nodes[index]
	if kindRows()[n.Kind].children < 2 {
		return index
	}
	a, b := ranges[n.A], ranges[n.B]
	first, second := false, false
	switch n.Kind {
	case impl.NodeCut:
		first, second = b[1] <= a[0], b[0] > a[1]
	case impl.NodeLess:
		first = turnSign(b[0]) <= a[0]
	default:
		first, second = b[0] >= a[1], b[1] < a[0]
		if n.Kind == impl.NodeSmooth && !(n.Numbers[0] <= toldSizes(toldDifferences(a, b))[0]) {
			return index
		}
	}
	switch {
	case first:
		return toldPlaceOf(s, ranges, n.A)
	case second:
		return toldPlaceOf(s, ranges, n.B)
	}
	return index
}

// toldSimple keeps the nodes that are left in their order.
func toldSimple(s impl.Shape, b impl.Box) impl.Shape {
	ranges := toldRangesIn(s, b)
	place := func(index int64) int64 { return toldPlaceOf(s, ranges, index) }
	kept := []int64{place(int64(len(s.Nodes)) - 1)}
	for i := 0; i < len(kept); i++ {
		n := s.Nodes[kept[i]]
		switch kindRows()[n.Kind].children {
		case 1:
			kept = append(kept, place(n.A))
		case 2:
			kept = append(kept, place(n.A), place(n.B))
		}
	}
	slices.Sort(kept)
	var nodes []impl.Node
	for _, index := range kept {
		n := s.Nodes[index]
		if kindRows()[n.Kind].children > 0 {
			n.A = int64(slices.Index(kept, place(n.A)))
		}
		if kindRows()[n.Kind].children > 1 {
			n.B = int64(slices.Index(kept, place(n.B)))
		}
		nodes = append(nodes, n)
	}
	return impl.Shape{Nodes: nodes}
}

// toldHalves returns both halves of a box whose sides are finite.
func toldHalves(b impl.Box) (impl.Box, impl.Box) {
	sides := toldCoordinates(b)
	axis := 0
	for i, c := range sides {
		if difference(c[1], c[0]) > difference(sides[axis][1], sides[axis][0]) {
			axis = i
		}
	}
	c := sides[axis]
	middle := sum(c[0], quotient(difference(c[1], c[0]), 2))
	first, second := b, b
	*coordinate(&first, 3+axis), *coordinate(&second, axis) = middle, middle
	return first, second
}

// toldSurface splits one box after another, where the program splits all in each round.
func toldSurface(s impl.Shape, b impl.Box, splits int64) []impl.Box {
	if toldSign(s, b) != 0 {
		return nil
	}
	if splits == 0 {
		return []impl.Box{b}
	}
	first, second := toldHalves(b)
	return append(toldSurface(s, first, splits-1), toldSurface(s, second, splits-1)...)
}

func sameRange(t *testing.T, what string, got impl.Range, want pair) {
	t.Helper()
	same(t, what+", Low", got.Low, want[0])
	same(t, what+", High", got.High, want[1])
}

// likePair tells whether a range is the one of the second version, bit for bit.
func likePair(got impl.Range, want pair) bool {
	return bitsOf(got.Low) == bitsOf(want[0]) && bitsOf(got.High) == bitsOf(want[1])
}

// boxLikeTold compares the ranges of a shape in a box, and what is told of them.
func boxLikeTold(t *testing.T, s impl.Shape, b impl.Box) {
	t.Helper()
	want := toldRangesIn(s, b)
	got, ok := impl.RangesIn(s, b)
	if !ok || len(got) != len(want) {
		t.Fatalf("RangesIn of %v in %v: got %v, %v, want %v", s, b, got, ok, want)
	}
	for i, r := range got {
		if !likePair(r, want[i]) {
			t.Fatalf("RangesIn of %v in %v, %d: got %v, want %v", s, b, i, r, want[i])
		}
	}
	if root, ok := impl.RangeIn(s, b); !ok || !likePair(root, want[len(want)-1]) {
		t.Fatalf("RangeIn of %v in %v: got %v, %v, want %v", s, b, root, ok, want[len(want)-1])
	}
	if sign, ok := impl.SignIn(s, b); !ok || sign != toldSign(s, b) {
		t.Fatalf("SignIn of %v in %v: got %v, %v, want %v", s, b, sign, ok, toldSign(s, b))
	}
	if simple, ok := impl.SimplifyIn(s, b); !ok || !equalShapes(simple, toldSimple(s, b)) {
		t.Fatalf("SimplifyIn of %v in %v: got %v, %v, want %v", s, b, simple, ok, toldSimple(s, b))
	}
}

// TestBoxesLikeTold compares shapes of all sizes in boxes of all sizes, bit for bit.
func TestBoxesLikeTold(t *testing.T) {
	r := rand.New(rand.NewSource(42))
	boxes, numbers := someBoxes(r, 500), oddNumbers()
	for i := range 4000 {
		s := randomShape(r, 1+i%impl.MaxNodes, kindRows())
		if i%2 == 1 {
			s = oddShape(r, s, numbers)
		}
		for range 4 {
			boxLikeTold(t, s, randomBox(r, 6))
			boxLikeTold(t, s, boxes[r.Intn(len(boxes))])
		}
	}
}

// TestKindsInBoxesLikeTold does this for each kind alone, with numbers and corners of all sizes.
func TestKindsInBoxesLikeTold(t *testing.T) {
	r := rand.New(rand.NewSource(43))
	boxes, numbers := someBoxes(r, 500), oddNumbers()
	for _, row := range kindRows() {
		for i := range 300 {
			axis := int64(0)
			if row.axis {
				axis = int64(i % 3)
			}
			s := oddShape(r, underRow(row, axis, row.numbers), numbers)
			if row.children == 1 {
				s.Nodes[0] = probe(r.Intn(3))
			}
			for range 10 {
				boxLikeTold(t, s, boxes[r.Intn(len(boxes))])
			}
		}
	}
}

// TestSurfacesLikeTold compares lists of boxes, for boxes that can be split.
func TestSurfacesLikeTold(t *testing.T) {
	r := rand.New(rand.NewSource(44))
	count := 0
	for i := range 1500 {
		s, b := randomShape(r, 1+i%impl.MaxNodes, kindRows()), randomBox(r, 5)
		if i%3 > 0 {
			b = box(toldTake(randomPoint(r, 2), vec(2, 2, 2)), toldAdd(randomPoint(r, 2), vec(2, 2, 2)))
		}
		splits := int64(i % (impl.MaxSplits + 1))
		got, ok := impl.SurfaceBoxes(s, b, splits)
		equal(t, "SurfaceBoxes succeeds", ok, true)
		want := toldSurface(s, b, splits)
		sameBoxes(t, fmt.Sprint("SurfaceBoxes of ", s, " in ", b), got, want)
		if len(want) > 1 && len(want) < 1<<splits {
			count++
		}
	}
	if count < 200 {
		t.Errorf("only %d lists have left some boxes out", count)
	}
}

// TestSizesLikeTold compares the ranges of sizes and lengths for any two numbers, in order or not.
func TestSizesLikeTold(t *testing.T) {
	r := rand.New(rand.NewSource(45))
	numbers := manyNumbers(100)
	pick := func() pair { return pair{numbers[r.Intn(len(numbers))], numbers[r.Intn(len(numbers))]} }
	asRange := func(p pair) impl.Range { return impl.Range{Low: p[0], High: p[1]} }
	for _, low := range numbers {
		for _, high := range numbers {
			a, b, c := pair{low, high}, pick(), pick()
			sameRange(t, fmt.Sprint("SizeRange ", a), impl.SizeRange(asRange(a)), toldSizes(a))
			sameRange(t, fmt.Sprint("LongRange ", a, b, c), impl.LongRange(asRange(a), asRange(b), asRange(c)), toldLongs(a, b, c))
			sameRange(t, fmt.Sprint("LongRange ", c, a, b), impl.LongRange(asRange(c), asRange(a), asRange(b)), toldLongs(c, a, b))
			sameRange(t, fmt.Sprint("LongRange ", b, c, a), impl.LongRange(asRange(b), asRange(c), asRange(a)), toldLongs(b, c, a))
		}
	}
}
