package tests

import (
	"math"
	"math/rand"
	"testing"

	"loop.example/g01193/impl"
)

// These functions tell distances once more, as the table of the document does, with each 32-bit operation made as a
// 64-bit one that is narrowed, which rounds to the same number.

func quotient(a, b float32) float32 { return float32(float64(a) / float64(b)) }

func turnSign(x float32) float32 { return num(math.Float32bits(x) ^ 1<<31) }

func toldLesser(a, b float32) float32 {
	if b < a {
		return b
	}
	return a
}

func toldGreater(a, b float32) float32 {
	if b > a {
		return b
	}
	return a
}

func toldSize(x float32) float32 {
	if x < 0 {
		return turnSign(x)
	}
	return x
}

func toldLong(x, y, z float32) float32 {
	squares := sum(sum(product(x, x), product(y, y)), product(z, z))
	return float32(math.Sqrt(float64(squares)))
}

func toldLeaf(n impl.Node, p impl.Vector) float32 {
	x := n.Numbers
	switch n.Kind {
	case impl.NodeBall:
		return difference(toldLong(p.X, p.Y, p.Z), x[0])
	case impl.NodeBox:
		d, e, f := difference(toldSize(p.X), x[0]), difference(toldSize(p.Y), x[1]), difference(toldSize(p.Z), x[2])
		out := toldLong(toldGreater(0, d), toldGreater(0, e), toldGreater(0, f))
		return sum(out, toldLesser(0, toldGreater(toldGreater(d, e), f)))
	case impl.NodeTube:
		return difference(toldLong(p.X, difference(p.Y, toldLesser(toldGreater(0, p.Y), x[0])), p.Z), x[1])
	case impl.NodeRing:
		return difference(toldLong(difference(toldLong(p.X, 0, p.Z), x[0]), p.Y, 0), x[1])
	}
	return difference(sum(sum(product(p.X, x[0]), product(p.Y, x[1])), product(p.Z, x[2])), x[3])
}

// toldPair also tells whether it takes the second one of two distances.
func toldPair(n impl.Node, a, b float32) (float32, bool) {
	switch n.Kind {
	case impl.NodeUnion:
		return toldLesser(a, b), b < a
	case impl.NodeCut:
		return toldGreater(a, b), b > a
	case impl.NodeLess:
		return toldGreater(a, turnSign(b)), turnSign(b) > a
	}
	k := n.Numbers[0]
	least := toldLesser(a, b)
	if h := difference(k, toldSize(difference(a, b))); h > 0 {
		least = difference(least, quotient(product(h, h), product(4, k)))
	}
	return least, b < a
}

func toldPoint(n impl.Node, p impl.Vector) impl.Vector {
	x := n.Numbers
	at := []float32{p.X, p.Y, p.Z}
	switch n.Kind {
	case impl.NodeMove:
		return vec(difference(p.X, x[0]), difference(p.Y, x[1]), difference(p.Z, x[2]))
	case impl.NodeScale:
		return vec(quotient(p.X, x[0]), quotient(p.Y, x[0]), quotient(p.Z, x[0]))
	case impl.NodeStretch:
		return vec(quotient(p.X, x[0]), quotient(p.Y, x[1]), quotient(p.Z, x[2]))
	case impl.NodeTurn:
		c, s := impl.SineTurns(difference(0.25, x[0])), impl.SineTurns(x[0])
		first, second := (n.B+1)%3, (n.B+2)%3
		i, j := at[first], at[second]
		at[first], at[second] = sum(product(c, i), product(s, j)), difference(product(c, j), product(s, i))
	case impl.NodeMirror:
		at[n.B] = toldSize(at[n.B])
	case impl.NodeFold:
		at[n.B] = toldFold(at[n.B], x[0])
	}
	return vec(at[0], at[1], at[2])
}

func toldFold(c, s float32) float32 {
	double := product(2, s)
	whole := math.RoundToEven(float64(quotient(c, double)))
	return toldSize(difference(c, product(double, float32(whole))))
}

// toldDistance returns the distance of a node, and the leaf that decides it.
func toldDistance(s impl.Shape, index int64, p impl.Vector) (float32, int64) {
	n := s.Nodes[index]
	switch kindRows()[n.Kind].children {
	case 0:
		return toldLeaf(n, p), index
	case 2:
		a, first := toldDistance(s, n.A, p)
		b, second := toldDistance(s, n.B, p)
		d, takesSecond := toldPair(n, a, b)
		if takesSecond {
			return d, second
		}
		return d, first
	}
	a, leaf := toldDistance(s, n.A, toldPoint(n, p))
	return toldAbove(n, a), leaf
}

// toldAbove returns the distance of a node with one child, which has the distance a.
func toldAbove(n impl.Node, a float32) float32 {
	switch n.Kind {
	case impl.NodeScale:
		return product(a, n.Numbers[0])
	case impl.NodeRound:
		return difference(a, n.Numbers[0])
	case impl.NodeShell:
		return difference(toldSize(a), n.Numbers[0])
	}
	return a
}

func toldFactor(s impl.Shape, index int64) float32 {
	n := s.Nodes[index]
	switch {
	case n.Kind == impl.NodePlane:
		return toldLong(n.Numbers[0], n.Numbers[1], n.Numbers[2])
	case n.Kind < impl.NodeUnion:
		return 1
	case n.Kind <= impl.NodeSmooth:
		return toldGreater(toldFactor(s, n.A), toldFactor(s, n.B))
	case n.Kind == impl.NodeStretch:
		u, v, w := quotient(1, n.Numbers[0]), quotient(1, n.Numbers[1]), quotient(1, n.Numbers[2])
		return product(toldFactor(s, n.A), max(u, v, w))
	}
	return toldFactor(s, n.A)
}

func likeTold(t *testing.T, s impl.Shape, points []impl.Vector) {
	t.Helper()
	root := int64(len(s.Nodes)) - 1
	list, ok := impl.DistancesAt(s, points)
	equal(t, "DistancesAt succeeds", ok, true)
	if len(list) != len(points) {
		t.Fatalf("%d distances of %d points of %v", len(list), len(points), s)
	}
	for i, p := range points {
		want, wantLeaf := toldDistance(s, root, p)
		got, ok := impl.DistanceAt(s, p)
		leaf, leafOk := impl.LeafAt(s, p)
		if !ok || !leafOk || bitsOf(got) != bitsOf(want) || bitsOf(list[i]) != bitsOf(want) || leaf != wantLeaf || impl.IsInside(s, p) != (want < 0) {
			t.Fatalf("at %v of %v: got %v and %v of leaf %d, want %v of leaf %d", p, s, got, list[i], leaf, want, wantLeaf)
		}
	}
	factor, ok := impl.FactorOf(s)
	succeeds(t, "FactorOf", factor, ok, toldFactor(s, root))
}

// TestShapesLikeTold compares shapes of all sizes with what the table tells, bit for bit.
func TestShapesLikeTold(t *testing.T) {
	r := rand.New(rand.NewSource(2))
	odd := manyVectors(200)
	numbers := oddNumbers()
	for i := range 4000 {
		s := randomShape(r, 1+i%impl.MaxNodes, kindRows())
		if i%2 == 1 {
			s = oddShape(r, s, numbers)
		}
		points := []impl.Vector{{}, vec(minusZero, minusZero, minusZero)}
		for range 12 {
			p := randomPoint(r, 6)
			q := odd[r.Intn(len(odd))]
			points = append(points, p, q, vec(p.X, q.Y, p.Z), vec(q.X, p.Y, minusZero))
		}
		likeTold(t, s, points)
	}
}

// TestKindsLikeTold does this for each kind alone, with all pairs of odd numbers as coordinates.
func TestKindsLikeTold(t *testing.T) {
	r := rand.New(rand.NewSource(3))
	odd := oddNumbers()
	for _, row := range kindRows() {
		for i := range 60 {
			axis := int64(0)
			if row.axis {
				axis = int64(i % 3)
			}
			s := underRow(row, axis, row.numbers)
			if i >= 3 {
				s = oddShape(r, s, odd)
			}
			var points []impl.Vector
			for range 200 {
				points = append(points, vec(odd[r.Intn(len(odd))], odd[r.Intn(len(odd))], odd[r.Intn(len(odd))]))
			}
			likeTold(t, s, points)
		}
	}
}
