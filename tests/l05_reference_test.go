package tests

import (
	"fmt"
	"math/rand"
	"slices"
	"strings"
	"testing"

	"loop.example/g01193/impl"
)

// These functions compile and run programs once more, as the document does, with the distances that are told in the
// tests of chapter 2.

func toldEmpty(n impl.Node) bool {
	want, isThere := map[int64]string{
		impl.NodeMove: "[0 0 0]", impl.NodeScale: "[3f800000]", impl.NodeStretch: "[3f800000 3f800000 3f800000]", impl.NodeRound: "[0]",
	}[n.Kind]
	bits := []uint32{}
	for _, x := range n.Numbers {
		bits = append(bits, bitsOf(x))
	}
	return isThere && fmt.Sprintf("%x", bits) == want
}

// toldSteps returns the steps for a node.
func toldSteps(s impl.Shape, index, v, n int64) []impl.Step {
	at := s.Nodes[index]
	own := alone(at.Kind, at.Numbers...)
	switch at.Kind {
	case impl.NodeBall, impl.NodeBox, impl.NodeTube, impl.NodeRing, impl.NodePlane:
		return []impl.Step{toLeaf(n, v, own)}
	case impl.NodeUnion, impl.NodeCut, impl.NodeLess, impl.NodeSmooth:
		first, second := toldSteps(s, at.A, v, n), toldSteps(s, at.B, v, n+1)
		return slices.Concat(first, second, []impl.Step{toMix(n, n, n+1, own)})
	case impl.NodeTurn, impl.NodeMirror, impl.NodeFold:
		own.B = at.B
	}
	if toldEmpty(at) {
		return toldSteps(s, at.A, v, n)
	}
	above := []impl.Step{toMix(n, n, 0, own)}
	switch at.Kind {
	case impl.NodeRound, impl.NodeShell:
		return slices.Concat(toldSteps(s, at.A, v, n), above)
	case impl.NodeScale:
		return slices.Concat([]impl.Step{toPoint(v+1, v, own)}, toldSteps(s, at.A, v+1, n), above)
	}
	return slices.Concat([]impl.Step{toPoint(v+1, v, own)}, toldSteps(s, at.A, v+1, n))
}

func toldCompiled(s impl.Shape) impl.Program {
	p := program(1, 1, toldSteps(s, int64(len(s.Nodes))-1, 0, 0)...)
	for _, s := range p.Steps {
		switch s.Kind {
		case impl.StepPoint:
			p.Points = max(p.Points, s.A+1, s.To+1)
		case impl.StepLeaf:
			p.Points, p.Values = max(p.Points, s.A+1), max(p.Values, s.To+1)
		default:
			p.Values = max(p.Values, s.To+1, s.A+1, s.B+1)
		}
	}
	return p
}

func toldRun(p impl.Program, at impl.Vector) float32 {
	vectors, numbers := map[int64]impl.Vector{0: at}, map[int64]float32{}
	for _, s := range p.Steps {
		switch {
		case s.Kind == impl.StepPoint:
			vectors[s.To] = toldPoint(s.Node, vectors[s.A])
		case s.Kind == impl.StepLeaf:
			numbers[s.To] = toldLeaf(s.Node, vectors[s.A])
		case kindRows()[s.Node.Kind].children == 2:
			numbers[s.To], _ = toldPair(s.Node, numbers[s.A], numbers[s.B])
		default:
			numbers[s.To] = toldAbove(s.Node, numbers[s.A])
		}
	}
	return numbers[0]
}

func toldNumbersAreGood(n impl.Node) bool {
	row := kindRows()[n.Kind]
	if len(n.Numbers) != len(row.numbers) || !toldFinite(n.Numbers...) {
		return false
	}
	for _, x := range n.Numbers {
		if row.bound == "at least 0" && x < 0 || row.bound == "greater than 0" && x <= 0 {
			return false
		}
	}
	return true
}

func toldStepIsValid(p impl.Program, s impl.Step) bool {
	n := s.Node
	if s.Kind < 0 || s.Kind > 2 || !slices.Contains(kindsOfSteps()[s.Kind], n.Kind) || !toldNumbersAreGood(n) {
		return false
	}
	row := kindRows()[n.Kind]
	highs := map[string]int64{"To": p.Values - 1, "A": p.Points - 1, "node B": 0, "B": 0}
	if row.axis {
		highs["node B"] = 2
	}
	switch {
	case s.Kind == impl.StepPoint:
		highs["To"] = p.Points - 1
	case s.Kind == impl.StepMix:
		highs["A"] = p.Values - 1
		if row.children == 2 {
			highs["B"] = p.Values - 1
		}
	}
	for what, x := range map[string]int64{"To": s.To, "A": s.A, "B": s.B, "node B": n.B} {
		if x < 0 || x > highs[what] {
			return false
		}
	}
	return n.A == 0 && (s.Kind != impl.StepPoint || s.To > 0)
}

func toldProgramIsValid(p impl.Program) bool {
	if p.Points < 1 || p.Points > 18 || p.Values < 1 || p.Values > 18 || len(p.Steps) < 1 || len(p.Steps) > 40 {
		return false
	}
	for _, s := range p.Steps {
		if !toldStepIsValid(p, s) {
			return false
		}
	}
	last := p.Steps[len(p.Steps)-1]
	return last.To == 0 && last.Kind != impl.StepPoint
}

func toldText(p impl.Program) string {
	text := fmt.Sprintf("%d,%d", p.Points, p.Values)
	for _, s := range p.Steps {
		numbers := []string{}
		for _, x := range s.Node.Numbers {
			numbers = append(numbers, fmt.Sprintf("%08x", bitsOf(x)))
		}
		if len(numbers) == 0 {
			numbers = []string{"none"}
		}
		text += fmt.Sprintf(";%d,%d,%d,%d,%d,%d:%s", s.Kind, s.To, s.A, s.B, s.Node.Kind, s.Node.B, strings.Join(numbers, ","))
	}
	return text
}

// runLikeTold checks all that a valid program does.
func runLikeTold(t *testing.T, p impl.Program, points []impl.Vector) {
	t.Helper()
	list, ok := impl.RunPoints(p, points)
	if !ok || len(list) != len(points) {
		t.Fatalf("RunPoints returns %d numbers for %d points of %v, %v", len(list), len(points), p, ok)
	}
	for i, at := range points {
		want := toldRun(p, at)
		got, ok := impl.RunProgram(p, at)
		if !ok || bitsOf(got) != bitsOf(want) || bitsOf(list[i]) != bitsOf(want) {
			t.Fatalf("at %v, %v makes %v and %v, want %v", at, p, got, list[i], want)
		}
	}
	for i := 0; i+8 <= len(points); i += 5 {
		block, ok := impl.RunBlock(p, points[i:i+8])
		equal(t, "RunBlock succeeds", ok, true)
		sameList(t, fmt.Sprint("RunBlock of ", p), block, list[i:i+8])
	}
	counts := map[int64]int64{}
	for _, s := range p.Steps {
		counts[s.Kind]++
	}
	for kind := int64(-1); kind <= 3; kind++ {
		got, ok := impl.StepsOfKind(p, kind)
		if !ok || got != counts[kind] {
			t.Fatalf("%v has %d steps of the kind %d, %v", p, got, kind, ok)
		}
	}
	text, ok := impl.ProgramText(p)
	if want := toldText(p); !ok || text != want {
		t.Fatalf("the text is %q, %v, want %q", text, ok, want)
	}
}

// oddPoints returns points of all sizes, some with zeros of both signs.
func oddPoints(r *rand.Rand, odd []impl.Vector, count int) []impl.Vector {
	points := []impl.Vector{{}, vec(minusZero, minusZero, minusZero)}
	for len(points) < count {
		p, q := randomPoint(r, 6), odd[r.Intn(len(odd))]
		points = append(points, p, q, vec(p.X, q.Y, p.Z), vec(q.X, p.Y, minusZero))
	}
	return points[:count]
}

// TestProgramsLikeTold compares programs of shapes of all sizes with those that are told, and what both make.
func TestProgramsLikeTold(t *testing.T) {
	r := rand.New(rand.NewSource(51))
	odd, numbers := manyVectors(200), oddNumbers()
	for i := range 3000 {
		s := randomShape(r, 1+i%impl.MaxNodes, kindRows())
		if i%3 == 1 {
			s = oddShape(r, s, numbers)
		}
		if i%2 == 1 {
			s = someEmpty(r, s)
		}
		want := toldCompiled(s)
		got, ok := impl.CompileShape(s)
		if !ok || !equalPrograms(got, want) || !impl.ValidProgram(got) || !impl.SameProgram(got, want) {
			t.Fatalf("the program of %v is %v, %v, want %v", s, got, ok, want)
		}
		runLikeTold(t, got, oddPoints(r, odd, i%40))
	}
}

// TestRandomProgramsLikeTold does so for programs that no shape needs to have.
func TestRandomProgramsLikeTold(t *testing.T) {
	r := rand.New(rand.NewSource(52))
	odd, numbers := manyVectors(200), oddNumbers()
	for i := range 4000 {
		p := randomProgram(r, 1+i%impl.MaxSteps)
		if i%3 == 1 {
			p = oddProgram(r, p, numbers)
		}
		if !impl.ValidProgram(p) || !toldProgramIsValid(p) {
			t.Fatalf("%v is not valid", p)
		}
		runLikeTold(t, p, oddPoints(r, odd, i%40))
	}
}

// TestStepsLikeTold does so for each kind of step and of node alone, with the points, and the numbers of two planes.
func TestStepsLikeTold(t *testing.T) {
	r := rand.New(rand.NewSource(53))
	odd, numbers := manyVectors(300), oddNumbers()
	for kind, nodes := range kindsOfSteps() {
		for _, of := range nodes {
			row := kindRows()[of]
			for i := range 60 {
				s := step(int64(kind), 0, 0, 0, alone(of, randomNumbers(r, row)...))
				if row.axis {
					s.Node.B = int64(i % 3)
				}
				p := program(2, 2, toLeaf(0, 0, plane(1, 0, 0, 0)), toLeaf(1, 0, plane(0, 1, 0, 0)))
				switch {
				case kind == impl.StepPoint:
					s.To = 1
					p.Steps = append(p.Steps, s, toLeaf(0, 1, probe(i/3%3)))
				case row.children == 2:
					s.A, s.B = int64(i%2), int64(i/2%2)
					p.Steps = append(p.Steps, s)
				default:
					p.Steps = append(p.Steps, s)
				}
				if i%2 == 1 {
					p = oddProgram(r, p, numbers)
				}
				runLikeTold(t, p, oddPoints(r, odd, 80))
			}
		}
	}
}

// damaged changes one thing of a program to what it can be elsewhere, or to nothing that there is.
func damaged(r *rand.Rand, p impl.Program, numbers []float32) impl.Program {
	p = copyProgram(p)
	s := &p.Steps[r.Intn(len(p.Steps))]
	x := oddIndices()[r.Intn(len(oddIndices()))]
	fields := []*int64{&p.Points, &p.Values, &s.Kind, &s.To, &s.A, &s.B, &s.Node.Kind, &s.Node.A, &s.Node.B}
	switch i := r.Intn(len(fields) + 4); {
	case i < len(fields):
		*fields[i] = x
	case i == len(fields):
		p.Steps = p.Steps[:r.Intn(len(p.Steps))]
	case i == len(fields)+1:
		p.Steps = append(p.Steps, p.Steps...)
	case i == len(fields)+2 || len(s.Node.Numbers) == 0:
		s.Node.Numbers = randomNumbers(r, kindRows()[r.Intn(17)])
	default:
		s.Node.Numbers[r.Intn(len(s.Node.Numbers))] = numbers[r.Intn(len(numbers))]
	}
	return p
}

func TestDamagedProgramsLikeTold(t *testing.T) {
	r := rand.New(rand.NewSource(54))
	odd, numbers := manyVectors(200), oddNumbers()
	valid, invalid := 0, 0
	for i := range 20000 {
		p := damaged(r, randomProgram(r, 1+i%impl.MaxSteps), numbers)
		want := toldProgramIsValid(p)
		if got := impl.ValidProgram(p); got != want {
			t.Fatalf("%v is valid: %v, want %v", p, got, want)
		}
		switch {
		case !want:
			refusedByProgramFunctions(t, fmt.Sprint(p), p)
			invalid++
		case i%8 == 0:
			runLikeTold(t, p, oddPoints(r, odd, 9))
			fallthrough
		default:
			valid++
		}
	}
	if valid < 2500 || invalid < 2500 {
		t.Errorf("only %d programs that are valid, and %d that are not", valid, invalid)
	}
}
