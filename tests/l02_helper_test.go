package tests

import (
	"math"
	"math/rand"
	"testing"

	"loop.example/g01193/impl"
)

// kindRow is a row of the table of kinds, with numbers that are as it tells.
type kindRow struct {
	kind     int64
	children int
	axis     bool
	bound    string
	numbers  []float32
}

// kindRows repeats the table of kinds, so that it does not depend on the program's own one.
func kindRows() []kindRow {
	return []kindRow{
		{impl.NodeBall, 0, false, "at least 0", []float32{1.5}},
		{impl.NodeBox, 0, false, "at least 0", []float32{1, 0.5, 2}},
		{impl.NodeTube, 0, false, "at least 0", []float32{2, 0.75}},
		{impl.NodeRing, 0, false, "at least 0", []float32{2, 0.5}},
		{impl.NodePlane, 0, false, "any", []float32{0.5, -2, 1, 0.25}},
		{impl.NodeUnion, 2, false, "", nil},
		{impl.NodeCut, 2, false, "", nil},
		{impl.NodeLess, 2, false, "", nil},
		{impl.NodeSmooth, 2, false, "greater than 0", []float32{0.5}},
		{impl.NodeMove, 1, false, "any", []float32{1, -1, 0.5}},
		{impl.NodeScale, 1, false, "greater than 0", []float32{1.5}},
		{impl.NodeStretch, 1, false, "greater than 0", []float32{0.5, 2, 1.25}},
		{impl.NodeTurn, 1, true, "any", []float32{0.125}},
		{impl.NodeMirror, 1, true, "", nil},
		{impl.NodeFold, 1, true, "greater than 0", []float32{1.5}},
		{impl.NodeRound, 1, false, "any", []float32{0.25}},
		{impl.NodeShell, 1, false, "at least 0", []float32{0.25}},
	}
}

func node(kind, a, b int64, numbers ...float32) impl.Node {
	return impl.Node{Kind: kind, A: a, B: b, Numbers: numbers}
}

func shape(nodes ...impl.Node) impl.Shape { return impl.Shape{Nodes: nodes} }

func ball(radius float32) impl.Node { return node(impl.NodeBall, 0, 0, radius) }

// probe is a plane at whose distance a coordinate can be read, if the other ones are zeros.
func probe(axis int) impl.Node {
	numbers := make([]float32, 4)
	numbers[axis] = 1
	return node(impl.NodePlane, 0, 0, numbers...)
}

// underRow returns a shape of a node of a row with balls below it, and with the numbers.
func underRow(row kindRow, axis int64, numbers []float32) impl.Shape {
	switch row.children {
	case 0:
		return shape(node(row.kind, 0, axis, numbers...))
	case 1:
		return shape(ball(1), node(row.kind, 0, axis, numbers...))
	}
	return shape(ball(1), ball(2), node(row.kind, 0, 1+axis, numbers...))
}

// copyShape copies all of a shape.
func copyShape(s impl.Shape) impl.Shape {
	var nodes []impl.Node
	for _, n := range s.Nodes {
		nodes = append(nodes, node(n.Kind, n.A, n.B, append([]float32(nil), n.Numbers...)...))
	}
	return impl.Shape{Nodes: nodes}
}

// equalShapes compares shapes without the program.
func equalShapes(a, b impl.Shape) bool {
	if len(a.Nodes) != len(b.Nodes) {
		return false
	}
	for i, n := range a.Nodes {
		m := b.Nodes[i]
		if n.Kind != m.Kind || n.A != m.A || n.B != m.B || len(n.Numbers) != len(m.Numbers) {
			return false
		}
		for j, x := range n.Numbers {
			if bitsOf(x) != bitsOf(m.Numbers[j]) {
				return false
			}
		}
	}
	return true
}

// makes takes the two results of a call behind the ones that name it, for shapes.
func makes(t *testing.T, what string, got impl.Shape, ok bool, want ...impl.Node) {
	t.Helper()
	equal(t, what+" succeeds", ok, true)
	if !equalShapes(got, shape(want...)) {
		t.Errorf("%s: got %v, want %v", what, got.Nodes, want)
	}
}

func failsShape(t *testing.T, what string, got impl.Shape, ok bool) {
	t.Helper()
	failsList(t, what, got.Nodes, ok)
}

// chain returns a ball below count - 1 nodes that grow it.
func chain(count int) impl.Shape {
	s := shape(ball(1))
	for i := 1; i < count; i++ {
		s.Nodes = append(s.Nodes, node(impl.NodeRound, int64(i-1), 0, 0.5))
	}
	return s
}

// randomShape returns a valid shape of count nodes of the kinds, in any order that is allowed, with numbers of a
// size that leads to ordinary distances.
func randomShape(r *rand.Rand, count int, rows []kindRow) impl.Shape {
	var s impl.Shape
	var free []int64
	take := func() int64 {
		i := r.Intn(len(free))
		child := free[i]
		free = append(free[:i], free[i+1:]...)
		return child
	}
	for len(s.Nodes) < count || len(free) > 1 {
		row := rows[r.Intn(len(rows))]
		left := count - len(s.Nodes)
		// Enough nodes are kept back to join all that are free.
		if row.children > len(free) || row.children == 0 && left < len(free)+1 || row.children == 1 && left < len(free) {
			continue
		}
		n := node(row.kind, 0, 0, randomNumbers(r, row)...)
		if row.children > 0 {
			n.A = take()
		}
		if row.children > 1 {
			n.B = take()
		}
		if row.axis {
			n.B = int64(r.Intn(3))
		}
		free = append(free, int64(len(s.Nodes)))
		s.Nodes = append(s.Nodes, n)
	}
	return s
}

func randomNumbers(r *rand.Rand, row kindRow) []float32 {
	numbers := make([]float32, len(row.numbers))
	for i := range numbers {
		switch row.bound {
		case "any":
			numbers[i] = r.Float32()*4 - 2
		case "at least 0":
			numbers[i] = max(0, r.Float32()*2-0.1)
		default:
			numbers[i] = r.Float32()*2 + 0.25
		}
	}
	return numbers
}

// oddShape changes the numbers of a shape to ones of all sizes, as far as they are allowed.
func oddShape(r *rand.Rand, s impl.Shape, numbers []float32) impl.Shape {
	s = copyShape(s)
	for _, n := range s.Nodes {
		for i := range n.Numbers {
			x := numbers[r.Intn(len(numbers))]
			bound := kindRows()[n.Kind].bound
			if r.Intn(3) > 0 || math.IsNaN(float64(x)) || math.IsInf(float64(x), 0) || bound == "at least 0" && x < 0 || bound == "greater than 0" && x <= 0 {
				continue
			}
			n.Numbers[i] = x
		}
	}
	return s
}

func randomPoint(r *rand.Rand, size float32) impl.Vector {
	return vec((r.Float32()*2-1)*size, (r.Float32()*2-1)*size, (r.Float32()*2-1)*size)
}
