package tests

import (
	"fmt"
	"testing"

	"loop.example/g01193/impl"
)

func TestValidGrids(t *testing.T) {
	for what, g := range validGrids() {
		equal(t, what+" is valid", impl.ValidGrid(g), true)
		equal(t, what+" is the same", impl.SameGrid(g, copyGrid(g)), true)
		last := len(g.Values) - 1
		value, ok := impl.GridValue(g, g.X-1, g.Y-1, g.Z-1)
		succeeds(t, what+", its last value", value, ok, g.Values[last])
		value, ok = impl.GridValue(g, 0, 0, 0)
		succeeds(t, what+", its first value", value, ok, g.Values[0])
	}
}

func TestGridsAreRefused(t *testing.T) {
	for what, g := range invalidGrids() {
		equal(t, what+" is valid", impl.ValidGrid(g), false)
		refusedByGridFunctions(t, what, g)
		equal(t, what+" is the same", impl.SameGrid(g, copyGrid(g)), true)
	}
}

// TestSameGrid changes each field, of valid grids and others.
func TestSameGrid(t *testing.T) {
	odd := grid(vec(notNumber, 0, infinite), notNumber, -1, 99, 0, notNumber, minusZero, 3)
	for _, g := range []impl.Grid{numberedGrid(2, 3, 4), unitGrid(1, 1, 1, 0), {Values: []float32{1, 2}}, odd} {
		equal(t, fmt.Sprint(g, " and itself"), impl.SameGrid(g, copyGrid(g)), true)
		changes := map[string]func(g *impl.Grid){
			"Step":             func(g *impl.Grid) { g.Step = 7 },
			"a value less":     func(g *impl.Grid) { g.Values = g.Values[:len(g.Values)-1] },
			"a value more":     func(g *impl.Grid) { g.Values = append(g.Values, 0) },
			"no values":        func(g *impl.Grid) { g.Values = nil },
			"the first value":  func(g *impl.Grid) { g.Values[0] = 77 },
			"the last value":   func(g *impl.Grid) { g.Values[len(g.Values)-1] = 77 },
			"counts exchanged": func(g *impl.Grid) { g.X, g.Y = g.Y+1, g.X+1 },
			"all of Low":       func(g *impl.Grid) { g.Low = vec(9, 9, 9) },
			"a count of 1<<32": func(g *impl.Grid) { g.Z += 1 << 32 },
		}
		for axis := range 3 {
			changes[fmt.Sprint("Low ", axis)] = func(g *impl.Grid) { *partOf(&g.Low, axis) = 7 }
			changes[fmt.Sprint("count ", axis)] = func(g *impl.Grid) { *countOf(g, axis) = 7 }
		}
		for what, change := range changes {
			other := copyGrid(g)
			change(&other)
			equal(t, fmt.Sprint(g, ", ", what), impl.SameGrid(g, other), false)
			equal(t, fmt.Sprint(g, ", ", what, ", the other way"), impl.SameGrid(other, g), false)
		}
	}
	signs := grid(impl.Vector{}, 0, 1, 1, 1, 0)
	for axis := range 3 {
		other := copyGrid(signs)
		*partOf(&other.Low, axis) = minusZero
		equal(t, fmt.Sprint("a sign of Low ", axis), impl.SameGrid(signs, other), false)
	}
	equal(t, "a sign of Step", impl.SameGrid(signs, grid(impl.Vector{}, minusZero, 1, 1, 1, 0)), false)
	equal(t, "a sign of a value", impl.SameGrid(signs, grid(impl.Vector{}, 0, 1, 1, 1, minusZero)), false)
	equal(t, "not-a-numbers", impl.SameGrid(unitGrid(1, 1, 1, num(0x7f800001)), unitGrid(1, 1, 1, num(0xffc00000))), true)
	equal(t, "nothing", impl.SameGrid(impl.Grid{}, impl.Grid{Values: []float32{}}), true)
}

func TestGridPoint(t *testing.T) {
	for _, c := range []struct {
		what    string
		low     impl.Vector
		step    float32
		x, y, z int64
		want    impl.Vector
	}{
		{"the first point", vec(1, 2, 3), 0.5, 0, 0, 0, vec(1, 2, 3)},
		{"along X", vec(1, 2, 3), 0.5, 3, 0, 0, vec(2.5, 2, 3)},
		{"along Y", vec(1, 2, 3), 0.5, 0, 3, 0, vec(1, 3.5, 3)},
		{"along Z", vec(1, 2, 3), 0.5, 0, 0, 3, vec(1, 2, 4.5)},
		{"the last point", vec(-1, -2, -3), 2, 3, 3, 3, vec(5, 4, 3)},
		{"-0 is added to", vec(minusZero, minusZero, minusZero), 1, 0, 0, 0, vec(0, 0, 0)},
		{"a product that is rounded first", vec(-0.3, 1, 0), 0.1, 3, 3, 3, vec(0, 1.3, num(0x3e99999a))},
		{"a point that is no number", vec(1, -1, 0), greatest, 2, 2, 0, vec(infinite, infinite, 0)},
		{"a point that is reached", vec(-greatest, 0, 0), greatest, 1, 1, 0, vec(0, greatest, 0)},
		{"the least step", vec(0, 1, num(0x80000002)), num(1), 3, 3, 3, vec(num(3), 1, num(1))},
	} {
		g := grid(c.low, c.step, 4, 4, 4, filled(64, 1)...)
		got, ok := impl.GridPoint(g, c.x, c.y, c.z)
		equal(t, c.what+" is there", ok, true)
		sameVector(t, c.what, got, c.want)
	}
}

// TestIndicesOfPoints reads every point, and those that are not there on each axis, though their index would be.
func TestIndicesOfPoints(t *testing.T) {
	for _, c := range [][3]int64{{1, 1, 1}, {2, 2, 2}, {16, 1, 1}, {1, 16, 1}, {1, 1, 16}, {2, 3, 4}, {4, 3, 2}, {3, 1, 5}, {16, 16, 4}} {
		g := numberedGrid(c[0], c[1], c[2])
		index := 0
		for z := range c[2] {
			for y := range c[1] {
				for x := range c[0] {
					value, ok := impl.GridValue(g, x, y, z)
					succeeds(t, fmt.Sprint("the value ", x, y, z, " of ", c), value, ok, float32(index))
					at, ok := impl.GridPoint(g, x, y, z)
					equal(t, "GridPoint succeeds", ok, true)
					sameVector(t, "a point", at, vec(float32(x), float32(y), float32(z)))
					index++
				}
			}
		}
		for axis := range 3 {
			for _, i := range append(oddCounts(), c[axis], c[axis]-1, c[axis]+1, -c[axis], 1<<32+c[axis]-1) {
				at := [3]int64{}
				at[axis] = i
				isThere := i >= 0 && i < c[axis]
				what := fmt.Sprint("the point ", at, " of ", c)
				value, ok := impl.GridValue(g, at[0], at[1], at[2])
				equal(t, what, ok, isThere)
				place, ok := impl.GridPoint(g, at[0], at[1], at[2])
				equal(t, what, ok, isThere)
				if !isThere {
					fails(t, what, value, ok)
					fails(t, what, place, ok)
				}
			}
		}
	}
}

func TestFillGrid(t *testing.T) {
	s := shape(plane(1, 10, 100, 0))
	g, ok := impl.FillGrid(s, vec(0, 0, 0), 1, 2, 3, 2)
	makesGrid(t, "a plane", g, ok, unitGrid(2, 3, 2, 0, 1, 10, 11, 20, 21, 100, 101, 110, 111, 120, 121))
	g, ok = impl.FillGrid(s, vec(-1, 0, 2), 0.5, 3, 1, 1)
	makesGrid(t, "a row", g, ok, grid(vec(-1, 0, 2), 0.5, 3, 1, 1, 199, 199.5, 200))
	g, ok = impl.FillGrid(shape(ball(1)), vec(3, 4, 0), num(1), 1, 1, 1)
	makesGrid(t, "one point", g, ok, grid(vec(3, 4, 0), num(1), 1, 1, 1, 4))
	g, ok = impl.FillGrid(shape(plane(1, 1, 1, 0)), vec(minusZero, minusZero, minusZero), 1, 1, 1, 1)
	makesGrid(t, "a Low of -0", g, ok, grid(vec(minusZero, minusZero, minusZero), 1, 1, 1, 1, 0))
	g, ok = impl.FillGrid(shape(plane(1, 0, 0, 0)), vec(-greatest, 0, 0), greatest, 4, 1, 1)
	makesGrid(t, "points that are no numbers", g, ok, grid(vec(-greatest, 0, 0), greatest, 4, 1, 1, -greatest, 0, infinite, infinite))
	g, ok = impl.FillGrid(shape(plane(1, -1, 0, 0)), vec(0, 0, 0), greatest, 3, 3, 1)
	makesGrid(t, "values that are no numbers", g, ok, grid(vec(0, 0, 0), greatest, 3, 3, 1, 0, greatest, infinite, -greatest, 0, infinite, -infinite, -infinite, notNumber))
	for _, c := range [][3]int64{{16, 16, 4}, {16, 4, 16}, {4, 16, 16}, {16, 1, 1}, {1, 16, 1}, {1, 1, 16}} {
		g, ok := impl.FillGrid(shape(plane(1, float32(c[0]), float32(c[0]*c[1]), 0)), vec(0, 0, 0), 1, c[0], c[1], c[2])
		makesGrid(t, fmt.Sprint("the counts ", c), g, ok, numberedGrid(c[0], c[1], c[2]))
	}
}

func TestFillGridFails(t *testing.T) {
	for what, s := range invalidShapes() {
		g, ok := impl.FillGrid(s, vec(0, 0, 0), 1, 2, 2, 2)
		failsGrid(t, what, g, ok)
	}
	for what, bad := range invalidGrids() {
		if impl.ValidGrid(grid(bad.Low, bad.Step, bad.X, bad.Y, bad.Z, filled(max(0, int(min(bad.X*bad.Y*bad.Z, 2000))), 0)...)) {
			// Only the number of its values is wrong.
			continue
		}
		g, ok := impl.FillGrid(shape(ball(1)), bad.Low, bad.Step, bad.X, bad.Y, bad.Z)
		failsGrid(t, what, g, ok)
	}
}
