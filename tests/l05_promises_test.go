package tests

import (
	"fmt"
	"maps"
	"math/rand"
	"slices"
	"strings"
	"testing"

	"loop.example/g01193/impl"
)

// TestExamplesOfChapter5 asserts the examples at the end of the chapter.
func TestExamplesOfChapter5(t *testing.T) {
	s, ok := impl.OneNode(impl.NodeBall, []float32{1})
	equal(t, "the ball is there", ok, true)
	moved, ok := impl.WrapShape(impl.NodeMove, s, 0, []float32{1, 0, 0})
	equal(t, "it is moved", ok, true)
	p, ok := impl.CompileShape(moved)
	equal(t, "it is compiled", ok, true)
	equal(t, "vectors", p.Points, 2)
	equal(t, "numbers", p.Values, 1)
	equal(t, "steps", len(p.Steps), 2)
	equal(t, "the first step", p.Steps[0].Kind, impl.StepPoint)
	equal(t, "the second step", p.Steps[1].Kind, impl.StepLeaf)
	still, ok := impl.WrapShape(impl.NodeMove, s, 0, []float32{0, 0, 0})
	equal(t, "it is not moved", ok, true)
	p, ok = impl.CompileShape(still)
	equal(t, "it is compiled", ok, true)
	equal(t, "steps", len(p.Steps), 1)
}

// givesDistances checks that a program gives the distances of its shape, bit for bit.
func givesDistances(t *testing.T, s impl.Shape, points []impl.Vector) {
	t.Helper()
	p, ok := impl.CompileShape(s)
	equal(t, "CompileShape succeeds", ok, true)
	equal(t, "the program is valid", impl.ValidProgram(p), true)
	want, ok := impl.DistancesAt(s, points)
	equal(t, "DistancesAt succeeds", ok, true)
	list, ok := impl.RunPoints(p, points)
	equal(t, "RunPoints succeeds", ok, true)
	sameList(t, fmt.Sprint("the distances of ", s), list, want)
	for i, at := range points {
		got, ok := impl.RunProgram(p, at)
		succeeds(t, fmt.Sprint("the distance of ", s, " at ", at), got, ok, want[i])
	}
	for i := 0; i+8 <= len(points); i += 8 {
		block, ok := impl.RunBlock(p, points[i:i+8])
		equal(t, "RunBlock succeeds", ok, true)
		sameList(t, fmt.Sprint("the distances of ", s), block, want[i:i+8])
	}
}

// TestProgramsGiveDistances is the promise of the chapter.
func TestProgramsGiveDistances(t *testing.T) {
	r := rand.New(rand.NewSource(55))
	odd, numbers := manyVectors(300), oddNumbers()
	for i := range 2000 {
		s := randomShape(r, 1+i%impl.MaxNodes, kindRows())
		if i%4 == 1 {
			s = oddShape(r, s, numbers)
		}
		if i%4 > 1 {
			s = someEmpty(r, s)
		}
		givesDistances(t, s, oddPoints(r, odd, 5+i%40))
	}
}

// TestKindsGiveDistances does this for each kind alone, so that no node above hides what is wrong below.
func TestKindsGiveDistances(t *testing.T) {
	r := rand.New(rand.NewSource(56))
	odd, numbers := manyVectors(300), oddNumbers()
	for _, row := range kindRows() {
		for i := range 60 {
			axis := int64(0)
			if row.axis {
				axis = int64(i % 3)
			}
			s := underRow(row, axis, randomNumbers(r, row))
			if row.children > 0 {
				s.Nodes[0] = []impl.Node{ball(1), probe(i % 3), plane(1, 1, 1, 0)}[i/3%3]
			}
			if i%2 == 1 {
				s = oddShape(r, s, numbers)
			}
			givesDistances(t, s, oddPoints(r, odd, 64))
		}
	}
}

// TestEmptyNodesChangeNothing looks at zeros of both signs, infinities and not-a-numbers below empty nodes, and below
// those that only look like them.
func TestEmptyNodesChangeNothing(t *testing.T) {
	all := []impl.Vector{}
	for _, x := range []float32{0, minusZero, infinite, -infinite, notNumber, num(1), num(0x80000001), greatest, -greatest, 1} {
		for _, y := range []float32{0, minusZero, infinite, -1} {
			all = append(all, vec(x, y, minusZero), vec(y, x, x), vec(minusZero, y, x))
		}
	}
	for _, leaf := range []impl.Node{ball(0), ball(1), plane(1, 1, 1, 0), plane(-1, 0, 1, minusZero), plane(0, 1, 0, 0)} {
		for _, n := range append(emptyNodes(0), alone(impl.NodeMove, minusZero, 0, minusZero), alone(impl.NodeRound, minusZero), alone(impl.NodeMove, minusZero, minusZero, minusZero)) {
			n.A = 0
			givesDistances(t, shape(leaf, n), all)
			if impl.IsEmptyNode(n) {
				list, _ := impl.DistancesAt(shape(leaf, n), all)
				plain, _ := impl.DistancesAt(shape(leaf), all)
				sameList(t, fmt.Sprint("distances below ", n), list, plain)
			}
		}
	}
	at := vec(minusZero, minusZero, minusZero)
	for _, c := range []struct {
		n    impl.Node
		want float32
	}{
		{alone(impl.NodeMove, 0, 0, 0), minusZero}, {alone(impl.NodeMove, minusZero, minusZero, minusZero), 0},
		{alone(impl.NodeRound, 0), minusZero}, {alone(impl.NodeRound, minusZero), 0},
	} {
		p, ok := impl.CompileShape(shape(plane(1, 1, 1, 0), c.n))
		equal(t, "CompileShape succeeds", ok, true)
		got, ok := impl.RunProgram(p, at)
		succeeds(t, fmt.Sprint("-0 below ", c.n), got, ok, c.want)
	}
}

// resultsOfPrograms writes down what the functions of the chapter return, bit for bit.
func resultsOfPrograms(s impl.Shape, p, q impl.Program, n impl.Node, kind int64, points []impl.Vector) string {
	var out strings.Builder
	number := func(list ...float32) {
		for _, x := range list {
			fmt.Fprintf(&out, "%08x ", bitsOf(x))
		}
	}
	compiled, ok := impl.CompileShape(s)
	fmt.Fprint(&out, compiled.Points, compiled.Values, len(compiled.Steps), ok)
	for _, s := range compiled.Steps {
		fmt.Fprint(&out, s.Kind, s.To, s.A, s.B, s.Node.Kind, s.Node.A, s.Node.B, ":")
		number(s.Node.Numbers...)
	}
	fmt.Fprint(&out, impl.ValidProgram(p), impl.SameProgram(p, q), impl.SameProgram(q, p), impl.IsEmptyNode(n))
	fmt.Fprint(&out, fmt.Sprint(impl.StepsOfKind(p, kind)), fmt.Sprint(impl.ProgramText(p)))
	for _, at := range points[:min(3, len(points))] {
		x, ok := impl.RunProgram(p, at)
		number(x)
		fmt.Fprint(&out, ok)
	}
	for _, some := range [][]impl.Vector{points, points[:min(8, len(points))]} {
		list, ok := impl.RunBlock(p, some)
		number(list...)
		fmt.Fprint(&out, ok, len(list))
		list, ok = impl.RunPoints(p, some)
		number(list...)
		fmt.Fprint(&out, ok, len(list))
	}
	return out.String()
}

// somePrograms has programs of all sizes, valid ones and others.
func somePrograms() []impl.Program {
	r := rand.New(rand.NewSource(57))
	var list []impl.Program
	numbers := oddNumbers()
	for i := range 40 {
		list = append(list, oddProgram(r, randomProgram(r, 1+i), numbers))
	}
	invalid := invalidPrograms()
	for _, what := range slices.Sorted(maps.Keys(invalid)) {
		list = append(list, invalid[what])
	}
	return list
}

// TestProgramsReturnEqualResults calls every function of the chapter with all sorts of arguments, twice.
func TestProgramsReturnEqualResults(t *testing.T) {
	vectors := manyVectors(300)
	programs, shapes := somePrograms(), someShapes()
	for i, p := range programs {
		for j, s := range shapes {
			q, n := programs[(i+j)%len(programs)], node(int64(j%18), int64(i), int64(j), someNumbers(i%5)...)
			kind, list := oddIndices()[(i+j)%len(oddIndices())], vectors[j:j+lengthOf(int64(i*7+j))%260]
			first := resultsOfPrograms(s, p, q, n, kind, list)
			equal(t, "functions of programs", resultsOfPrograms(copyShape(s), copyProgram(p), copyProgram(q), n, kind, slices.Clone(list)), first)
		}
		s, q := shapes[i%len(shapes)], programs[(i+1)%len(programs)]
		none, empty := impl.Node{Kind: impl.NodeRound}, impl.Node{Kind: impl.NodeRound, Numbers: []float32{}}
		equal(t, "functions of programs", resultsOfPrograms(s, p, q, none, 1, nil), resultsOfPrograms(s, p, q, empty, 1, []impl.Vector{}))
		equal(t, "functions of programs", resultsOfPrograms(s, withEmptyLists(p), q, none, 1, vectors[:8]), resultsOfPrograms(s, p, q, none, 1, vectors[:8]))
	}
}

// withEmptyLists returns a program with empty lists instead of nil ones.
func withEmptyLists(p impl.Program) impl.Program {
	p = copyProgram(p)
	for i := range p.Steps {
		if n := &p.Steps[i].Node; len(n.Numbers) == 0 {
			n.Numbers = []float32{}
		}
	}
	if len(p.Steps) == 0 {
		p.Steps = []impl.Step{}
	}
	return p
}

// roomyProgram returns a program whose steps and numbers stand in greater arrays, and a function that tells whether
// these are as they were.
func roomyProgram(p impl.Program) (impl.Program, func() bool) {
	steps := make([]impl.Step, 60)
	for i := range steps {
		numbers := filled(9, float32(i))
		steps[i] = step(5, 6, 7, 8, alone(int64(100+i), numbers...))
		if i < len(p.Steps) {
			steps[i] = p.Steps[i]
			copy(numbers, p.Steps[i].Node.Numbers)
			steps[i].Node.Numbers = numbers[:len(p.Steps[i].Node.Numbers):9]
		}
	}
	whole := func() string {
		text := ""
		for _, s := range steps {
			text += fmt.Sprint(s, s.Node.Numbers[:cap(s.Node.Numbers)])
		}
		return text
	}
	before := whole()
	return impl.Program{Points: p.Points, Values: p.Values, Steps: steps[:len(p.Steps)]}, func() bool { return whole() == before }
}

func TestProgramsStayAsTheyAre(t *testing.T) {
	r := rand.New(rand.NewSource(58))
	for i, row := range kindRows() {
		for _, p := range []impl.Program{randomProgram(r, 1+i), randomProgram(r, 40), program(1, 1, toLeaf(0, 0, ball(-1)))} {
			given, kept := roomyProgram(p)
			other, keptOther := roomyProgram(p)
			s, keptShape := roomy(someEmpty(r, underRow(row, 0, row.numbers)))
			n, keptNode := roomy(shape(emptyNodes(0)[i%4]))
			list := points(300, vec(-3, 5, 1), vec(2, -7, 0))
			for _, count := range []int{0, 5, 8, 9, 200} {
				resultsOfPrograms(s, given, other, n.Nodes[0], 1, list[:count])
			}
			equal(t, "the program is as it was", kept(), true)
			equal(t, "the other program is as it was", keptOther(), true)
			equal(t, "the shape is as it was", keptShape(), true)
			equal(t, "the node is as it was", keptNode(), true)
			for i, at := range list {
				sameVector(t, "a point of the list", at, points(300, vec(-3, 5, 1), vec(2, -7, 0))[i])
			}
		}
	}
}

// overwriteProgram changes all of a program, its unused capacity too.
func overwriteProgram(t *testing.T, p impl.Program) {
	t.Helper()
	var nodes []impl.Node
	for _, s := range p.Steps {
		nodes = append(nodes, s.Node)
	}
	overwrite(t, shape(nodes...))
	clear(p.Steps[:cap(p.Steps)])
}

// TestProgramsAreNew changes what was returned, which must not change what was given, nor what is returned later.
func TestProgramsAreNew(t *testing.T) {
	for _, row := range kindRows() {
		// A scale above each kind has two steps of its own, which must not share their numbers.
		s := underRow(row, 0, row.numbers)
		s.Nodes = append(s.Nodes, node(impl.NodeScale, int64(len(s.Nodes))-1, 0, 2))
		kept := copyShape(s)
		first, ok := impl.CompileShape(s)
		equal(t, "CompileShape succeeds", ok, true)
		second, _ := impl.CompileShape(s)
		want := copyProgram(first)
		overwriteProgram(t, first)
		third, _ := impl.CompileShape(s)
		equal(t, "the shape that was given", equalShapes(s, kept), true)
		equal(t, "the program that was returned before", equalPrograms(second, want), true)
		equal(t, "the program that is returned later", equalPrograms(third, want), true)

		list := manyVectors(20)[:20]
		for _, run := range []func() ([]float32, bool){
			func() ([]float32, bool) { return impl.RunPoints(second, list) },
			func() ([]float32, bool) { return impl.RunPoints(second, list[:8]) },
			func() ([]float32, bool) { return impl.RunBlock(second, list[:8]) },
		} {
			numbers, _ := run()
			before, _ := run()
			clear(numbers[:cap(numbers)])
			later, _ := run()
			equal(t, "there are numbers", len(later) >= 8, true)
			sameList(t, "numbers", before, later)
		}
		equal(t, "the program that was given", equalPrograms(second, want), true)
	}
}
