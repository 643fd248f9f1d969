package tests

import (
	"fmt"
	"math"
	"math/rand"
	"testing"

	"loop.example/g01193/impl"
)

func step(kind, to, a, b int64, n impl.Node) impl.Step {
	return impl.Step{Kind: kind, To: to, A: a, B: b, Node: n}
}

func toPoint(to, a int64, n impl.Node) impl.Step { return step(impl.StepPoint, to, a, 0, n) }

func toLeaf(to, a int64, n impl.Node) impl.Step { return step(impl.StepLeaf, to, a, 0, n) }

func toMix(to, a, b int64, n impl.Node) impl.Step { return step(impl.StepMix, to, a, b, n) }

func program(points, values int64, steps ...impl.Step) impl.Program {
	return impl.Program{Points: points, Values: values, Steps: steps}
}

// alone returns a node as it stands in a step.
func alone(kind int64, numbers ...float32) impl.Node { return node(kind, 0, 0, numbers...) }

// kindsOfSteps repeats the table of steps: the kinds of nodes of each kind of step.
func kindsOfSteps() [3][]int64 {
	return [3][]int64{
		{impl.NodeMove, impl.NodeScale, impl.NodeStretch, impl.NodeTurn, impl.NodeMirror, impl.NodeFold},
		{impl.NodeBall, impl.NodeBox, impl.NodeTube, impl.NodeRing, impl.NodePlane},
		{impl.NodeUnion, impl.NodeCut, impl.NodeLess, impl.NodeSmooth, impl.NodeScale, impl.NodeRound, impl.NodeShell},
	}
}

// copyProgram copies all of a program.
func copyProgram(p impl.Program) impl.Program {
	copied := program(p.Points, p.Values)
	for _, s := range p.Steps {
		s.Node = copyShape(shape(s.Node)).Nodes[0]
		copied.Steps = append(copied.Steps, s)
	}
	return copied
}

// equalPrograms compares programs without the program that is tested.
func equalPrograms(a, b impl.Program) bool {
	if a.Points != b.Points || a.Values != b.Values || len(a.Steps) != len(b.Steps) {
		return false
	}
	for i, s := range a.Steps {
		o := b.Steps[i]
		if s.Kind != o.Kind || s.To != o.To || s.A != o.A || s.B != o.B || !equalShapes(shape(s.Node), shape(o.Node)) {
			return false
		}
	}
	return true
}

// compiles checks the program of a shape.
func compiles(t *testing.T, what string, s impl.Shape, want impl.Program) {
	t.Helper()
	got, ok := impl.CompileShape(s)
	equal(t, what+" is compiled", ok, true)
	if !equalPrograms(got, want) {
		t.Errorf("%s: got %v, want %v", what, got, want)
	}
	equal(t, what+", its program is valid", impl.ValidProgram(got), true)
}

func failsProgram(t *testing.T, what string, got impl.Program, ok bool) {
	t.Helper()
	equal(t, what+" succeeds", ok, false)
	equal(t, what+", Points", got.Points, 0)
	equal(t, what+", Values", got.Values, 0)
	equal(t, what+", steps", len(got.Steps), 0)
}

// runsTo checks what a program makes at a point, also in a block with others around it, and in a list.
func runsTo(t *testing.T, what string, p impl.Program, at impl.Vector, want float32) {
	t.Helper()
	equal(t, fmt.Sprint(what, " is valid"), impl.ValidProgram(p), true)
	got, ok := impl.RunProgram(p, at)
	succeeds(t, what+", RunProgram", got, ok, want)
	for lane := range 8 {
		points := manyVectors(8)[:8]
		points[lane] = at
		list, ok := impl.RunBlock(p, points)
		if !ok || len(list) != 8 {
			t.Fatalf("%s: RunBlock returns %v, %v", what, list, ok)
		}
		same(t, fmt.Sprint(what, ", RunBlock, ", lane), list[lane], want)
		list, ok = impl.RunPoints(p, points[:lane+1])
		if !ok || len(list) != lane+1 {
			t.Fatalf("%s: RunPoints returns %v, %v", what, list, ok)
		}
		same(t, fmt.Sprint(what, ", RunPoints, ", lane), list[lane], want)
	}
}

// randomProgram returns a valid program of count steps, with registers and nodes of all kinds.
func randomProgram(r *rand.Rand, count int) impl.Program {
	p := program(1+r.Int63n(impl.MaxRegisters), 1+r.Int63n(impl.MaxRegisters))
	for len(p.Steps) < count {
		kind := int64(r.Intn(3))
		last := len(p.Steps) == count-1
		if kind == impl.StepPoint && (last || p.Points == 1) {
			continue
		}
		nodes := kindsOfSteps()[kind]
		row := kindRows()[nodes[r.Intn(len(nodes))]]
		s := step(kind, r.Int63n(p.Values), r.Int63n(p.Points), 0, alone(row.kind, randomNumbers(r, row)...))
		switch {
		case kind == impl.StepPoint:
			s.To = 1 + r.Int63n(p.Points-1)
		case kind == impl.StepMix:
			s.A = r.Int63n(p.Values)
			if row.children == 2 {
				s.B = r.Int63n(p.Values)
			}
		}
		if row.axis {
			s.Node.B = r.Int63n(3)
		}
		if last {
			s.To = 0
		}
		p.Steps = append(p.Steps, s)
	}
	return p
}

// oddProgram changes the numbers of a program to ones of all sizes, as far as they are allowed.
func oddProgram(r *rand.Rand, p impl.Program, numbers []float32) impl.Program {
	p = copyProgram(p)
	for i, s := range p.Steps {
		p.Steps[i].Node = oddShape(r, shape(s.Node), numbers).Nodes[0]
	}
	return p
}

// someEmpty changes numbers of a shape so that many of its nodes are empty, or nearly so.
func someEmpty(r *rand.Rand, s impl.Shape) impl.Shape {
	s = copyShape(s)
	for _, n := range s.Nodes {
		x, near := float32(0), minusZero
		switch n.Kind {
		case impl.NodeScale, impl.NodeStretch:
			x, near = 1, num(0x3f800001)
		case impl.NodeMove, impl.NodeRound:
		default:
			continue
		}
		choice := r.Intn(4)
		for i := range n.Numbers {
			if choice > 0 {
				n.Numbers[i] = x
			}
			if choice == 1 && r.Intn(3) == 0 {
				n.Numbers[i] = near
			}
		}
	}
	return s
}

// oddIndices are integers at the edges of what registers, axes and kinds can be.
func oddIndices() []int64 {
	return []int64{0, 1, 2, 3, 4, 5, 9, 10, 16, 17, 18, 19, 40, -1, -2, 1 << 32, 1<<32 + 1, -1 << 32, math.MaxInt64, math.MinInt64}
}
