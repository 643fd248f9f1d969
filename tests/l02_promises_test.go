package tests

import (
	"fmt"
	"maps"
	"math"
	"math/rand"
	"slices"
	"strings"
	"testing"

	"loop.example/g01193/impl"
)

// TestExamplesOfChapter2 asserts the examples at the end of the chapter.
func TestExamplesOfChapter2(t *testing.T) {
	round, ok := impl.OneNode(impl.NodeBall, []float32{1})
	equal(t, "the ball is there", ok, true)
	distance, ok := impl.DistanceAt(round, vec(3, 4, 0))
	succeeds(t, "the distance of the ball", distance, ok, 4)
	box, ok := impl.OneNode(impl.NodeBox, []float32{1, 1, 1})
	equal(t, "the box is there", ok, true)
	distance, ok = impl.DistanceAt(box, vec(4, 5, 0))
	succeeds(t, "the distance of the box", distance, ok, 5)
	distance, ok = impl.DistanceAt(box, vec(0, 0, 0))
	succeeds(t, "the distance of the box inside", distance, ok, -1)
}

// inSet tells without distances whether a point is in the set that a node describes, for nodes of sets alone.
func inSet(s impl.Shape, index int64, p [3]float64) bool {
	n := s.Nodes[index]
	number := func(i int) float64 { return float64(n.Numbers[i]) }
	switch n.Kind {
	case impl.NodeUnion, impl.NodeSmooth:
		return inSet(s, n.A, p) || inSet(s, n.B, p)
	case impl.NodeCut:
		return inSet(s, n.A, p) && inSet(s, n.B, p)
	case impl.NodeLess:
		return inSet(s, n.A, p) && !inSet(s, n.B, p)
	case impl.NodeMove:
		return inSet(s, n.A, [3]float64{p[0] - number(0), p[1] - number(1), p[2] - number(2)})
	case impl.NodeScale:
		return inSet(s, n.A, [3]float64{p[0] / number(0), p[1] / number(0), p[2] / number(0)})
	case impl.NodeStretch:
		return inSet(s, n.A, [3]float64{p[0] / number(0), p[1] / number(1), p[2] / number(2)})
	case impl.NodeTurn:
		sine, cosine := math.Sincos(2 * math.Pi * number(0))
		i, j := (n.B+1)%3, (n.B+2)%3
		p[i], p[j] = cosine*p[i]+sine*p[j], cosine*p[j]-sine*p[i]
		return inSet(s, n.A, p)
	case impl.NodeMirror:
		p[n.B] = math.Abs(p[n.B])
		return inSet(s, n.A, p)
	case impl.NodeFold:
		p[n.B] = math.Abs(math.Remainder(p[n.B], 2*number(0)))
		return inSet(s, n.A, p)
	}
	return inLeaf(n, p)
}

func inLeaf(n impl.Node, p [3]float64) bool {
	number := func(i int) float64 { return float64(n.Numbers[i]) }
	x, y, z := p[0], p[1], p[2]
	switch n.Kind {
	case impl.NodeBall:
		return x*x+y*y+z*z < number(0)*number(0)
	case impl.NodeBox:
		return math.Abs(x) < number(0) && math.Abs(y) < number(1) && math.Abs(z) < number(2)
	case impl.NodeTube:
		y -= min(max(y, 0), number(0))
		return x*x+y*y+z*z < number(1)*number(1)
	case impl.NodeRing:
		flat := math.Hypot(x, z) - number(0)
		return flat*flat+y*y < number(1)*number(1)
	}
	return x*number(0)+y*number(1)+z*number(2) < number(3)
}

// rowsOf returns the rows of some kinds.
func rowsOf(kinds ...int64) []kindRow {
	var rows []kindRow
	for _, kind := range kinds {
		rows = append(rows, kindRows()[kind])
	}
	return rows
}

// TestSignsAreThoseOfSets looks at points that are not so near to a surface that rounding decides.
func TestSignsAreThoseOfSets(t *testing.T) {
	r := rand.New(rand.NewSource(7))
	rows := rowsOf(impl.NodeBall, impl.NodeBox, impl.NodeTube, impl.NodeRing, impl.NodePlane, impl.NodeUnion, impl.NodeCut, impl.NodeLess,
		impl.NodeMove, impl.NodeScale, impl.NodeStretch, impl.NodeTurn, impl.NodeMirror, impl.NodeFold)
	inside, outside := 0, 0
	for i := range 3000 {
		s := randomShape(r, 1+i%impl.MaxNodes, rows)
		for range 30 {
			p := randomPoint(r, 3)
			d, ok := impl.DistanceAt(s, p)
			equal(t, "DistanceAt succeeds", ok, true)
			if math.Abs(float64(d)) < 1e-3 {
				continue
			}
			want := inSet(s, int64(len(s.Nodes))-1, [3]float64{float64(p.X), float64(p.Y), float64(p.Z)})
			if want != (d < 0) || want != impl.IsInside(s, p) {
				t.Fatalf("the distance of %v at %v is %v, but in its set: %v", s, p, d, want)
			}
			if want {
				inside++
			} else {
				outside++
			}
		}
	}
	if inside < 5000 || outside < 5000 {
		t.Errorf("only %d points inside and %d outside were looked at", inside, outside)
	}
}

// TestSignsOfGrownSets looks at the kinds that change the set of their children by a distance.
func TestSignsOfGrownSets(t *testing.T) {
	r := rand.New(rand.NewSource(8))
	for range 3000 {
		radius, by, p := r.Float32()*2+0.5, r.Float32()*0.5, randomPoint(r, 3)
		long := math.Sqrt(float64(p.X)*float64(p.X) + float64(p.Y)*float64(p.Y) + float64(p.Z)*float64(p.Z))
		out := long - float64(radius)
		if math.Abs(math.Abs(out)-float64(by)) < 1e-3 {
			continue
		}
		equal(t, "in a greater ball", impl.IsInside(shape(ball(radius), node(impl.NodeRound, 0, 0, by)), p), out < float64(by))
		equal(t, "in a lesser ball", impl.IsInside(shape(ball(radius), node(impl.NodeRound, 0, 0, -by)), p), out < -float64(by))
		equal(t, "in a shell", impl.IsInside(shape(ball(radius), node(impl.NodeShell, 0, 0, by)), p), math.Abs(out) < float64(by))
	}
}

// TestSmoothUnions checks that what is smooth holds the union, and grows by a quarter of its number at most, where
// both distances are equal, and by nothing where they differ by more than this number.
func TestSmoothUnions(t *testing.T) {
	r := rand.New(rand.NewSource(9))
	for range 5000 {
		k := r.Float32() + 0.1
		s := shape(ball(1), node(impl.NodeMove, 0, 0, 1.5, 0, 0), node(impl.NodeBox, 0, 0, 0.5, 1, 1), node(impl.NodeSmooth, 1, 2, k))
		union := shape(append(s.Nodes[:3:3], node(impl.NodeUnion, 1, 2))...)
		p := randomPoint(r, 3)
		smooth, _ := impl.DistanceAt(s, p)
		plain, _ := impl.DistanceAt(union, p)
		a, _ := toldDistance(s, 1, p)
		b, _ := toldDistance(s, 2, p)
		if smooth > plain || smooth < plain-k/4-1e-5 || math.Abs(float64(a-b)) > float64(k) && smooth != plain {
			t.Fatalf("smooth by %v: %v at %v, where the union has %v", k, smooth, p, plain)
		}
	}
}

// TestDistancesChangeAtMostAsTold moves points by steps of all sizes.
func TestDistancesChangeAtMostAsTold(t *testing.T) {
	r := rand.New(rand.NewSource(10))
	for i := range 3000 {
		s := randomShape(r, 1+i%impl.MaxNodes, kindRows())
		factor, ok := impl.FactorOf(s)
		equal(t, "FactorOf succeeds", ok, true)
		for _, size := range []float32{0.01, 0.1, 1, 4} {
			p := randomPoint(r, 4)
			q := impl.AddVectors(p, randomPoint(r, size))
			a, _ := impl.DistanceAt(s, p)
			b, _ := impl.DistanceAt(s, q)
			moved := math.Sqrt(math.Pow(float64(p.X-q.X), 2) + math.Pow(float64(p.Y-q.Y), 2) + math.Pow(float64(p.Z-q.Z), 2))
			// What rounding adds grows with the numbers, and these with the factor.
			if math.Abs(float64(a-b)) > float64(factor)*(moved+2e-4)+1e-4 {
				t.Fatalf("from %v to %v, the distance of %v changes from %v to %v, by more than %v times", p, q, s, a, b, factor)
			}
		}
	}
}

// TestFactorsAreReached checks that factors are not greater than they need to be, where a way shows this.
func TestFactorsAreReached(t *testing.T) {
	for _, c := range []struct {
		s    impl.Shape
		p, q impl.Vector
	}{
		{shape(ball(1)), vec(2, 0, 0), vec(3, 0, 0)},
		{shape(node(impl.NodePlane, 0, 0, 3, 0, 4, 1)), vec(0, 0, 0), vec(3, 0, 4)},
		{shape(ball(1), node(impl.NodeStretch, 0, 0, 2, 0.25, 1)), vec(0, 1, 0), vec(0, 2, 0)},
		{shape(ball(1), node(impl.NodeScale, 0, 0, 0.25)), vec(0, 1, 0), vec(0, 2, 0)},
	} {
		factor, _ := impl.FactorOf(c.s)
		a, _ := impl.DistanceAt(c.s, c.p)
		b, _ := impl.DistanceAt(c.s, c.q)
		same(t, fmt.Sprint("the change of ", c.s), b-a, factor*impl.LongOf(impl.LessVectors(c.q, c.p)))
	}
}

// resultsOfShapes writes down what the functions of the chapter return, bit for bit.
func resultsOfShapes(a, b impl.Shape, kind, n int64, numbers []float32, points []impl.Vector) string {
	var out strings.Builder
	write := func(s impl.Shape, ok bool) {
		fmt.Fprint(&out, ok, len(s.Nodes))
		for _, n := range s.Nodes {
			fmt.Fprint(&out, n.Kind, n.A, n.B, ":")
			for _, x := range n.Numbers {
				fmt.Fprintf(&out, "%08x ", bitsOf(x))
			}
		}
	}
	write(impl.OneNode(kind, numbers))
	write(impl.JoinShapes(kind, a, b, numbers))
	write(impl.WrapShape(kind, a, n, numbers))
	write(impl.UnionOf([]impl.Shape{a, b, a}))
	write(impl.PartOf(a, n))
	fmt.Fprint(&out, impl.ValidShape(a), impl.SameShape(a, b))
	fmt.Fprint(&out, fmt.Sprint(impl.DepthOf(a)), fmt.Sprint(impl.LeavesOf(a)))
	list, ok := impl.DistancesAt(a, points)
	for _, x := range list {
		fmt.Fprintf(&out, "%08x ", bitsOf(x))
	}
	factor, _ := impl.FactorOf(a)
	fmt.Fprintf(&out, "%v %08x", ok, bitsOf(factor))
	for _, p := range points[:min(3, len(points))] {
		d, _ := impl.DistanceAt(a, p)
		fmt.Fprintf(&out, " %08x %v %v", bitsOf(d), impl.IsInside(a, p), fmt.Sprint(impl.LeafAt(a, p)))
	}
	return out.String()
}

// someShapes has shapes of all kinds and sizes, valid ones and others.
func someShapes() []impl.Shape {
	r := rand.New(rand.NewSource(11))
	list := []impl.Shape{chain(1), chain(16), chain(17)}
	numbers := oddNumbers()
	for i := range 20 {
		list = append(list, oddShape(r, randomShape(r, 1+i%impl.MaxNodes, kindRows()), numbers))
	}
	invalid := invalidShapes()
	for _, what := range slices.Sorted(maps.Keys(invalid)) {
		list = append(list, invalid[what])
	}
	return list
}

// TestShapesReturnEqualResults calls every function of the chapter with all sorts of arguments, twice.
func TestShapesReturnEqualResults(t *testing.T) {
	points := manyVectors(100)
	shapes := someShapes()
	for i, a := range shapes {
		b := shapes[(i+7)%len(shapes)]
		for _, n := range []int64{0, 1, 2, 3, 15, 16, -1, 1 << 32, math.MaxInt64, math.MinInt64} {
			row := kindRows()[(i+int(n&15))%17]
			first := resultsOfShapes(a, b, row.kind, n, row.numbers, points)
			equal(t, "functions of shapes", first, resultsOfShapes(copyShape(a), copyShape(b), row.kind, n, row.numbers, points))
			equal(t, "functions of shapes", resultsOfShapes(a, b, n, n, someNumbers(i), nil), resultsOfShapes(a, b, n, n, someNumbers(i), []impl.Vector{}))
		}
	}
}

func someNumbers(count int) []float32 { return filled(count%300, 0.5) }

// roomy returns a shape whose nodes and numbers stand in greater arrays, and a function that tells whether these
// are as they were.
func roomy(s impl.Shape) (impl.Shape, func() bool) {
	nodes := make([]impl.Node, 40)
	for i := range nodes {
		numbers := filled(9, float32(i))
		nodes[i] = node(int64(100+i), 7, 8, numbers...)
		if i < len(s.Nodes) {
			n := s.Nodes[i]
			copy(numbers, n.Numbers)
			nodes[i] = node(n.Kind, n.A, n.B, numbers[:len(n.Numbers):9]...)
		}
	}
	before := fmt.Sprint(whole(nodes))
	return impl.Shape{Nodes: nodes[:len(s.Nodes)]}, func() bool { return fmt.Sprint(whole(nodes)) == before }
}

// whole returns nodes with their lengths and all that their arrays hold.
func whole(nodes []impl.Node) []any {
	var list []any
	for _, n := range nodes {
		list = append(list, n.Kind, n.A, n.B, len(n.Numbers), n.Numbers[:cap(n.Numbers)])
	}
	return list
}

func TestShapesStayAsTheyAre(t *testing.T) {
	for _, row := range kindRows() {
		for _, s := range []impl.Shape{underRow(row, 0, row.numbers), chain(3), chain(16), shape(ball(-1))} {
			a, keptA := roomy(s)
			b, keptB := roomy(underRow(row, 0, row.numbers))
			numbers := append(append(make([]float32, 0, 9), row.numbers...), 7, 7)
			points := make([]impl.Vector, 5, 300)
			resultsOfShapes(a, b, row.kind, 0, numbers[:len(row.numbers)], points)
			equal(t, "the first shape is as it was", keptA(), true)
			equal(t, "the second shape is as it was", keptB(), true)
			sameList(t, "the numbers", numbers, append(append([]float32(nil), row.numbers...), 7, 7))
			for _, p := range points[:300] {
				sameVector(t, "a point", p, impl.Vector{})
			}
			list := []impl.Shape{a, b, a, shape(ball(9))}
			impl.UnionOf(list[:2])
			equal(t, "the list is as it was", equalShapes(list[3], shape(ball(9))) && equalShapes(list[1], b) && equalShapes(list[2], a), true)
		}
	}
}

// overwrite changes all of a shape, its unused capacity too.
func overwrite(t *testing.T, s impl.Shape) {
	t.Helper()
	for i, n := range s.Nodes {
		numbers := n.Numbers[:cap(n.Numbers)]
		for j := range numbers {
			numbers[j] = -7
		}
		// Another list of the same result must not have changed with this one.
		for _, m := range s.Nodes[i+1:] {
			for _, x := range m.Numbers {
				equal(t, "two nodes share their numbers", x == -7, false)
			}
		}
	}
	nodes := s.Nodes[:cap(s.Nodes)]
	clear(nodes)
}

// TestShapesAreNew changes what was returned, which must not change what was given, nor what is returned later.
func TestShapesAreNew(t *testing.T) {
	a := shape(ball(1), node(impl.NodeMove, 0, 0, 1, 2, 3), node(impl.NodeScale, 1, 0, 2))
	kept := copyShape(a)
	numbers := []float32{0.5}
	for what, build := range map[string]func() (impl.Shape, bool){
		"OneNode":    func() (impl.Shape, bool) { return impl.OneNode(impl.NodeBall, numbers) },
		"JoinShapes": func() (impl.Shape, bool) { return impl.JoinShapes(impl.NodeSmooth, a, a, numbers) },
		"WrapShape":  func() (impl.Shape, bool) { return impl.WrapShape(impl.NodeRound, a, 0, numbers) },
		"UnionOf 1":  func() (impl.Shape, bool) { return impl.UnionOf([]impl.Shape{a}) },
		"UnionOf 3":  func() (impl.Shape, bool) { return impl.UnionOf([]impl.Shape{a, a, a}) },
		"PartOf 1":   func() (impl.Shape, bool) { return impl.PartOf(a, 1) },
		"PartOf 2":   func() (impl.Shape, bool) { return impl.PartOf(a, 2) },
	} {
		first, ok := build()
		equal(t, what+" succeeds", ok, true)
		second, _ := build()
		want := copyShape(first)
		overwrite(t, first)
		equal(t, what+", what was given", equalShapes(a, kept) && numbers[0] == 0.5, true)
		equal(t, what+", what was returned before", equalShapes(second, want), true)
		third, _ := build()
		equal(t, what+", what is returned later", equalShapes(third, want), true)
	}
	points := []impl.Vector{{}, {}}
	first, _ := impl.DistancesAt(a, points)
	second, _ := impl.DistancesAt(a, points)
	clear(first[:cap(first)])
	third, _ := impl.DistancesAt(a, points)
	sameList(t, "distances returned before", second, third)
	leaves, _ := impl.LeavesOf(shape(ball(1), ball(2), node(impl.NodeUnion, 0, 1)))
	clear(leaves[:cap(leaves)])
	leaves, _ = impl.LeavesOf(shape(ball(1), ball(2), node(impl.NodeUnion, 0, 1)))
	equal(t, "leaves returned later", fmt.Sprint(leaves), "[0 1]")
}
