package tests

import (
	"fmt"
	"math"
	"slices"
	"testing"

	"loop.example/g01193/impl"
)

func TestLimitsOfChapter5(t *testing.T) {
	equal(t, "MaxSteps", impl.MaxSteps, 40)
	equal(t, "MaxRegisters", impl.MaxRegisters, 18)
	equal(t, "Lanes", impl.Lanes, 8)
	equal(t, "StepPoint", impl.StepPoint, 0)
	equal(t, "StepLeaf", impl.StepLeaf, 1)
	equal(t, "StepMix", impl.StepMix, 2)
}

// TestKindsOfSteps checks which kinds of steps there are for which kinds of nodes, with which axis.
func TestKindsOfSteps(t *testing.T) {
	for _, kind := range oddIndices() {
		for _, row := range kindRows() {
			for _, axis := range oddIndices() {
				s := step(kind, 1, 0, 0, node(row.kind, 0, axis, row.numbers...))
				want := kind >= 0 && kind <= 2 && slices.Contains(kindsOfSteps()[max(0, min(kind, 2))], row.kind) && (axis == 0 || row.axis && axis >= 0 && axis <= 2)
				p := program(2, 2, s, toLeaf(0, 0, ball(1)))
				equal(t, fmt.Sprint("a step ", s), impl.ValidProgram(p), want)
			}
		}
		for _, of := range []int64{-1, 17, 18, 1 << 32, math.MaxInt64, math.MinInt64} {
			for _, numbers := range [][]float32{nil, {1}, {1, 1, 1}} {
				p := program(2, 2, step(kind, 1, 0, 0, alone(of, numbers...)), toLeaf(0, 0, ball(1)))
				equal(t, fmt.Sprint("a step ", kind, " of a kind of node ", of), impl.ValidProgram(p), false)
			}
		}
	}
}

// TestNumbersOfSteps checks that nodes of steps have the numbers that those of shapes have.
func TestNumbersOfSteps(t *testing.T) {
	for kind, nodes := range kindsOfSteps() {
		for _, of := range nodes {
			row := kindRows()[of]
			valid := func(numbers []float32) bool {
				return impl.ValidProgram(program(2, 2, step(int64(kind), 1, 0, 0, alone(of, numbers...)), toLeaf(0, 0, ball(1))))
			}
			equal(t, fmt.Sprint("the numbers of the kind ", of), valid(row.numbers), true)
			equal(t, "a number too many", valid(append(append([]float32(nil), row.numbers...), 1)), false)
			equal(t, "many numbers", valid(filled(1000, 1)), false)
			for i := range row.numbers {
				equal(t, "numbers too few", valid(row.numbers[:i]), false)
				for _, x := range oddNumbers() {
					numbers := append([]float32(nil), row.numbers...)
					numbers[i] = x
					equal(t, fmt.Sprint("the kind ", of, " with ", numbers), valid(numbers), impl.ValidShape(underRow(row, 0, numbers)))
				}
			}
		}
	}
}

// fieldOfStep is a field of a step that has more than one step before it in a program of 3 vectors and 4 numbers.
type fieldOfStep struct {
	what string
	step impl.Step
	at   func(s *impl.Step) *int64
	low  int64
	high int64
}

func fieldsOfSteps() []fieldOfStep {
	to := func(s *impl.Step) *int64 { return &s.To }
	a := func(s *impl.Step) *int64 { return &s.A }
	b := func(s *impl.Step) *int64 { return &s.B }
	nodeA := func(s *impl.Step) *int64 { return &s.Node.A }
	nodeB := func(s *impl.Step) *int64 { return &s.Node.B }
	move, turn := toPoint(1, 0, alone(impl.NodeMove, 1, 2, 3)), toPoint(1, 0, alone(impl.NodeTurn, 0.25))
	scaled := toPoint(1, 0, alone(impl.NodeScale, 2))
	leaf := toLeaf(1, 0, ball(1))
	union, scale, shell := toMix(1, 0, 0, alone(impl.NodeUnion)), toMix(1, 0, 0, alone(impl.NodeScale, 2)), toMix(1, 0, 0, alone(impl.NodeShell, 1))
	return []fieldOfStep{
		{"To of a point", move, to, 1, 2}, {"A of a point", move, a, 0, 2}, {"B of a point", move, b, 0, 0},
		{"A of the node of a point", move, nodeA, 0, 0}, {"B of the node of a point", move, nodeB, 0, 0},
		{"To of a turned point", turn, to, 1, 2}, {"A of a turned point", turn, a, 0, 2}, {"B of a turned point", turn, b, 0, 0},
		{"A of the node of a turned point", turn, nodeA, 0, 0}, {"the axis of a turned point", turn, nodeB, 0, 2},
		{"To of a scaled point", scaled, to, 1, 2}, {"A of a scaled point", scaled, a, 0, 2}, {"B of a scaled point", scaled, b, 0, 0},
		{"A of the node of a scaled point", scaled, nodeA, 0, 0}, {"B of the node of a scaled point", scaled, nodeB, 0, 0},
		{"To of a leaf", leaf, to, 0, 3}, {"A of a leaf", leaf, a, 0, 2}, {"B of a leaf", leaf, b, 0, 0},
		{"A of the node of a leaf", leaf, nodeA, 0, 0}, {"B of the node of a leaf", leaf, nodeB, 0, 0},
		{"To of a union", union, to, 0, 3}, {"A of a union", union, a, 0, 3}, {"B of a union", union, b, 0, 3},
		{"A of the node of a union", union, nodeA, 0, 0}, {"B of the node of a union", union, nodeB, 0, 0},
		{"To of a scale", scale, to, 0, 3}, {"A of a scale", scale, a, 0, 3}, {"B of a scale", scale, b, 0, 0},
		{"A of the node of a scale", scale, nodeA, 0, 0}, {"B of the node of a scale", scale, nodeB, 0, 0},
		{"To of a shell", shell, to, 0, 3}, {"A of a shell", shell, a, 0, 3}, {"B of a shell", shell, b, 0, 0},
		{"A of the node of a shell", shell, nodeA, 0, 0}, {"B of the node of a shell", shell, nodeB, 0, 0},
	}
}

// TestFieldsOfSteps breaks each field of each kind of step alone, and takes it to both of its ends.
func TestFieldsOfSteps(t *testing.T) {
	for _, f := range fieldsOfSteps() {
		for _, x := range append(oddIndices(), f.low-1, f.low, f.high, f.high+1) {
			s := f.step
			*f.at(&s) = x
			p := program(3, 4, toLeaf(0, 0, ball(1)), s, toLeaf(0, 0, ball(1)))
			equal(t, fmt.Sprint(f.what, " is ", x), impl.ValidProgram(p), f.low <= x && x <= f.high)
		}
	}
}

func TestCountsOfPrograms(t *testing.T) {
	for _, count := range oddIndices() {
		good := count >= 1 && count <= 18
		equal(t, fmt.Sprint(count, " vectors"), impl.ValidProgram(program(count, 1, toLeaf(0, 0, ball(1)))), good)
		equal(t, fmt.Sprint(count, " numbers"), impl.ValidProgram(program(1, count, toLeaf(0, 0, ball(1)))), good)
	}
	for _, count := range []int{0, 1, 2, 39, 40, 41, 1000} {
		p := program(1, 1)
		for range count {
			p.Steps = append(p.Steps, toLeaf(0, 0, ball(1)))
		}
		equal(t, fmt.Sprint(count, " steps"), impl.ValidProgram(p), count >= 1 && count <= 40)
	}
	move := alone(impl.NodeMove, 1, 2, 3)
	equal(t, "the last vector", impl.ValidProgram(program(18, 18, toPoint(17, 17, move), toLeaf(17, 17, ball(1)), toMix(0, 17, 17, alone(impl.NodeCut)))), true)
	equal(t, "no vector for a point", impl.ValidProgram(program(1, 2, toPoint(1, 0, move), toLeaf(0, 0, ball(1)))), false)
	equal(t, "a bad first step", impl.ValidProgram(program(2, 2, toLeaf(2, 0, ball(1)), toLeaf(0, 0, ball(1)))), false)
	equal(t, "a bad last step", impl.ValidProgram(program(2, 2, toLeaf(0, 0, ball(1)), toLeaf(0, 2, ball(1)))), false)
}

func TestLastSteps(t *testing.T) {
	first := toLeaf(0, 0, ball(1))
	for _, c := range []struct {
		what string
		last impl.Step
		want bool
	}{
		{"a leaf", toLeaf(0, 1, ball(1)), true},
		{"a mix", toMix(0, 1, 1, alone(impl.NodeUnion)), true},
		{"a mix of one child", toMix(0, 1, 0, alone(impl.NodeShell, 1)), true},
		{"a scale", toMix(0, 1, 0, alone(impl.NodeScale, 1)), true},
		{"a leaf to another number", toLeaf(1, 0, ball(1)), false},
		{"a mix to another number", toMix(1, 0, 0, alone(impl.NodeUnion)), false},
		{"a scale to another number", toMix(1, 0, 0, alone(impl.NodeScale, 1)), false},
		{"a point", toPoint(1, 0, alone(impl.NodeScale, 1)), false},
		{"a point to the vector 0", toPoint(0, 0, alone(impl.NodeScale, 1)), false},
	} {
		equal(t, c.what, impl.ValidProgram(program(2, 2, first, c.last)), c.want)
		equal(t, c.what+" alone", impl.ValidProgram(program(2, 2, c.last)), c.want)
	}
}

func TestSameProgram(t *testing.T) {
	p := program(2, 3, toPoint(1, 0, node(impl.NodeTurn, 0, 1, 0.25)), toLeaf(0, 1, ball(1)), toMix(0, 1, 2, alone(impl.NodeSmooth, 0.5)))
	equal(t, "the same", impl.SameProgram(p, copyProgram(p)), true)
	for what, change := range map[string]func(p *impl.Program){
		"Points":          func(p *impl.Program) { p.Points++ },
		"Values":          func(p *impl.Program) { p.Values-- },
		"Points, greatly": func(p *impl.Program) { p.Points += 1 << 32 },
		"Values, greatly": func(p *impl.Program) { p.Values += 1 << 32 },
		"Kind":            func(p *impl.Program) { p.Steps[1].Kind = impl.StepMix },
		"To":              func(p *impl.Program) { p.Steps[0].To = 0 },
		"A":               func(p *impl.Program) { p.Steps[2].A = 0 },
		"B":               func(p *impl.Program) { p.Steps[2].B = 1 },
		"Kind of a node":  func(p *impl.Program) { p.Steps[1].Node.Kind = impl.NodeShell },
		"A of a node":     func(p *impl.Program) { p.Steps[0].Node.A = 1 },
		"B of a node":     func(p *impl.Program) { p.Steps[0].Node.B = 2 },
		"a number":        func(p *impl.Program) { p.Steps[2].Node.Numbers[0] = num(0x3f000001) },
		"no number":       func(p *impl.Program) { p.Steps[1].Node.Numbers = nil },
		"a number more":   func(p *impl.Program) { p.Steps[1].Node.Numbers = []float32{1, 1} },
		"no last step":    func(p *impl.Program) { p.Steps = p.Steps[:2] },
		"no first step":   func(p *impl.Program) { p.Steps = p.Steps[1:] },
		"no steps":        func(p *impl.Program) { p.Steps = nil },
		"steps exchanged": func(p *impl.Program) { p.Steps[0], p.Steps[1] = p.Steps[1], p.Steps[0] },
		"a step more":     func(p *impl.Program) { p.Steps = append(p.Steps, p.Steps[2]) },
	} {
		other := copyProgram(p)
		change(&other)
		equal(t, what, impl.SameProgram(p, other), false)
		equal(t, what+", the other way", impl.SameProgram(other, p), false)
		equal(t, what+", both", impl.SameProgram(other, copyProgram(other)), true)
	}
	equal(t, "no steps", impl.SameProgram(impl.Program{}, impl.Program{Steps: []impl.Step{}}), true)
	empty := program(1, 1, toMix(0, 0, 0, impl.Node{Kind: impl.NodeUnion, Numbers: []float32{}}))
	equal(t, "a list that is empty", impl.SameProgram(program(1, 1, toMix(0, 0, 0, alone(impl.NodeUnion))), empty), true)
	for _, c := range []struct {
		a, b float32
		want bool
	}{
		{0, 0, true}, {0, minusZero, false}, {minusZero, minusZero, true}, {1, -1, false}, {infinite, infinite, true},
		{notNumber, notNumber, true}, {num(0x7f800001), num(0xffc00000), true}, {notNumber, 0, false}, {num(1), 0, false},
	} {
		equal(t, fmt.Sprint(c.a, " and ", c.b), impl.SameProgram(program(1, 1, toLeaf(0, 0, ball(c.a))), program(1, 1, toLeaf(0, 0, ball(c.b)))), c.want)
	}
}

// invalidPrograms has programs that are not valid, each for a reason of its own.
func invalidPrograms() map[string]impl.Program {
	leaf := toLeaf(0, 0, ball(1))
	list := map[string]impl.Program{
		"nothing":               {},
		"no steps":              program(1, 1),
		"an empty list":         {Points: 1, Values: 1, Steps: []impl.Step{}},
		"no vectors":            program(0, 1, leaf),
		"no numbers":            program(1, 0, leaf),
		"a vector too many":     program(19, 1, leaf),
		"a number too many":     program(1, 19, leaf),
		"many vectors":          program(math.MaxInt64, 1, leaf),
		"many numbers":          program(1, math.MaxInt64, leaf),
		"vectors below 0":       program(-1, 1, leaf),
		"numbers below 0":       program(1, math.MinInt64, leaf),
		"a step too many":       program(1, 1, slices.Repeat([]impl.Step{leaf}, 41)...),
		"many steps":            program(1, 1, slices.Repeat([]impl.Step{leaf}, 10000)...),
		"a step of no kind":     program(2, 2, step(3, 0, 0, 0, ball(1))),
		"a step of the kind -1": program(2, 2, step(-1, 0, 0, 0, ball(1)), leaf),
		"a great kind of step":  program(2, 2, step(math.MaxInt64, 0, 0, 0, ball(1)), leaf),
		"a least kind of step":  program(2, 2, step(math.MinInt64, 0, 0, 0, ball(1)), leaf),
		"a leaf to be mixed":    program(2, 2, toMix(0, 0, 0, ball(1))),
		"a union as a leaf":     program(2, 2, toLeaf(0, 0, alone(impl.NodeUnion))),
		"a round as a point":    program(2, 2, toPoint(1, 0, alone(impl.NodeRound, 1)), leaf),
		"a move as a mix":       program(2, 2, leaf, toMix(0, 0, 0, alone(impl.NodeMove, 1, 2, 3))),
		"a last point":          program(2, 1, leaf, toPoint(1, 0, alone(impl.NodeMove, 1, 2, 3))),
		"a point to the first":  program(2, 1, toPoint(0, 0, alone(impl.NodeMove, 1, 2, 3)), leaf),
		"a result elsewhere":    program(1, 2, leaf, toLeaf(1, 0, ball(1))),
		"a missing vector":      program(1, 1, toLeaf(0, 1, ball(1))),
		"a missing number":      program(2, 1, toMix(0, 1, 0, alone(impl.NodeRound, 1))),
		"a bad number":          program(1, 1, toLeaf(0, 0, ball(-1))),
		"a not-a-number":        program(1, 1, toLeaf(0, 0, ball(notNumber))),
		"a node of no kind":     program(1, 1, toLeaf(0, 0, alone(17, 1))),
		"a node of kind -1":     program(1, 1, toLeaf(0, 0, alone(-1, 1))),
		"a node with children":  program(2, 2, toMix(0, 0, 1, node(impl.NodeUnion, 0, 1))),
		"a node with a child":   program(2, 2, toMix(0, 0, 0, node(impl.NodeRound, 1, 0, 1))),
	}
	for _, f := range fieldsOfSteps() {
		for _, x := range []int64{f.low - 1, f.high + 1} {
			s := f.step
			*f.at(&s) = x
			list[fmt.Sprint(f.what, " is ", x)] = program(3, 4, s, leaf)
		}
	}
	return list
}

// refusedByProgramFunctions checks that all that comes with a failure is zero.
func refusedByProgramFunctions(t *testing.T, what string, p impl.Program) {
	t.Helper()
	x, ok := impl.RunProgram(p, vec(1, 2, 3))
	fails(t, what+", RunProgram", x, ok)
	for _, count := range []int{0, 7, 8, 9} {
		list, ok := impl.RunBlock(p, make([]impl.Vector, count))
		failsList(t, what+", RunBlock", list, ok)
		list, ok = impl.RunPoints(p, make([]impl.Vector, count))
		failsList(t, what+", RunPoints", list, ok)
	}
	for kind := int64(-1); kind <= 3; kind++ {
		count, ok := impl.StepsOfKind(p, kind)
		fails(t, what+", StepsOfKind", count, ok)
	}
	text, ok := impl.ProgramText(p)
	fails(t, what+", ProgramText", text, ok)
}

func TestProgramsAreRefused(t *testing.T) {
	for what, p := range invalidPrograms() {
		equal(t, what, impl.ValidProgram(p), false)
		refusedByProgramFunctions(t, what, p)
		equal(t, what+", the same", impl.SameProgram(p, copyProgram(p)), true)
	}
}

func TestStepsOfKind(t *testing.T) {
	leaf, scale := toLeaf(0, 0, ball(1)), alone(impl.NodeScale, 2)
	for _, c := range []struct {
		p    impl.Program
		want [3]int64
	}{
		{program(1, 1, leaf), [3]int64{0, 1, 0}},
		{program(2, 1, toPoint(1, 0, scale), leaf, toMix(0, 0, 0, scale)), [3]int64{1, 1, 1}},
		{program(2, 1, toPoint(1, 0, scale), toPoint(1, 1, scale), leaf, leaf, toMix(0, 0, 0, scale), leaf), [3]int64{2, 3, 1}},
		{program(1, 1, toMix(0, 0, 0, scale), toMix(0, 0, 0, alone(impl.NodeUnion))), [3]int64{0, 0, 2}},
		{program(1, 1, slices.Repeat([]impl.Step{leaf}, 40)...), [3]int64{0, 40, 0}},
	} {
		for _, kind := range oddIndices() {
			want := int64(0)
			if kind >= 0 && kind <= 2 {
				want = c.want[kind]
			}
			got, ok := impl.StepsOfKind(c.p, kind)
			equal(t, fmt.Sprint("StepsOfKind ", kind, " succeeds"), ok, true)
			equal(t, fmt.Sprint("StepsOfKind ", kind, " of ", c.p), got, want)
		}
	}
}

func TestProgramText(t *testing.T) {
	for _, c := range []struct {
		p    impl.Program
		want string
	}{
		{program(1, 1, toLeaf(0, 0, ball(1))), "1,1;1,0,0,0,0,0:3f800000"},
		{program(18, 10, toLeaf(9, 17, node(impl.NodeBox, 0, 0, 0, minusZero, 2)), toMix(0, 9, 8, alone(impl.NodeCut))), "18,10;1,9,17,0,1,0:00000000,80000000,40000000;2,0,9,8,6,0:none"},
		{program(3, 1, toPoint(2, 1, node(impl.NodeTurn, 0, 2, -0.25)), toLeaf(0, 2, plane(1, 2, 3, 4))), "3,1;0,2,1,0,12,2:be800000;1,0,2,0,4,0:3f800000,40000000,40400000,40800000"},
		{program(2, 1, toPoint(1, 0, node(impl.NodeMirror, 0, 1)), toMix(0, 0, 0, alone(impl.NodeShell, num(1)))), "2,1;0,1,0,0,13,1:none;2,0,0,0,16,0:00000001"},
	} {
		got, ok := impl.ProgramText(c.p)
		equal(t, c.want+" succeeds", ok, true)
		equal(t, "the text", got, c.want)
	}
}
