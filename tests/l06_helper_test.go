package tests

import (
	"fmt"
	"math"
	"math/rand"
	"slices"
	"testing"

	"loop.example/g01193/impl"
)

func grid(low impl.Vector, step float32, x, y, z int64, values ...float32) impl.Grid {
	return impl.Grid{Low: low, Step: step, X: x, Y: y, Z: z, Values: values}
}

// unitGrid has the step 1, from 0, 0, 0.
func unitGrid(x, y, z int64, values ...float32) impl.Grid {
	return grid(impl.Vector{}, 1, x, y, z, values...)
}

// lineGrid has points along an axis alone.
func lineGrid(axis int, values ...float32) impl.Grid {
	counts := [3]int64{1, 1, 1}
	counts[axis] = int64(len(values))
	return unitGrid(counts[0], counts[1], counts[2], values...)
}

// numberedGrid has the indices of its points as values.
func numberedGrid(x, y, z int64) impl.Grid {
	g := unitGrid(x, y, z)
	for i := range x * y * z {
		g.Values = append(g.Values, float32(i))
	}
	return g
}

// levelGrid has the same value at all points.
func levelGrid(x, y, z int64, value float32) impl.Grid {
	return unitGrid(x, y, z, filled(int(x*y*z), value)...)
}

// countOf returns a field with a count of points.
func countOf(g *impl.Grid, axis int) *int64 { return []*int64{&g.X, &g.Y, &g.Z}[axis] }

// partOf returns a coordinate of a vector.
func partOf(v *impl.Vector, axis int) *float32 { return []*float32{&v.X, &v.Y, &v.Z}[axis] }

func copyGrid(g impl.Grid) impl.Grid {
	g.Values = append([]float32(nil), g.Values...)
	return g
}

// equalGrids compares grids without the program.
func equalGrids(a, b impl.Grid) bool {
	as, bs := []float32{a.Low.X, a.Low.Y, a.Low.Z, a.Step}, []float32{b.Low.X, b.Low.Y, b.Low.Z, b.Step}
	sameBits := func(x, y float32) bool { return bitsOf(x) == bitsOf(y) }
	return a.X == b.X && a.Y == b.Y && a.Z == b.Z && slices.EqualFunc(as, bs, sameBits) && slices.EqualFunc(a.Values, b.Values, sameBits)
}

// makesGrid takes the two results of a call behind the one that names it.
func makesGrid(t *testing.T, what string, got impl.Grid, ok bool, want impl.Grid) {
	t.Helper()
	equal(t, what+" succeeds", ok, true)
	equal(t, what+" is valid", impl.ValidGrid(got), true)
	if !equalGrids(got, want) {
		t.Errorf("%s: got %v, want %v", what, got, want)
	}
}

func failsGrid(t *testing.T, what string, got impl.Grid, ok bool) {
	t.Helper()
	equal(t, what+" succeeds", ok, false)
	equal(t, what+" returns nothing", equalGrids(got, impl.Grid{}), true)
}

// oddCounts are integers at the edges of what counts and indices of points can be.
func oddCounts() []int64 {
	return []int64{0, 1, 2, 3, 15, 16, 17, 32, -1, -2, 1 << 32, 1<<32 + 1, 1<<32 + 2, -1 << 32, 1 << 62, math.MaxInt64, math.MinInt64}
}

// allowedCounts returns random counts of at least one point with a product that is allowed.
func allowedCounts(r *rand.Rand) [3]int64 {
	for {
		counts := [3]int64{1 + r.Int63n(impl.MaxSide), 1 + r.Int63n(impl.MaxSide), 1 + r.Int63n(impl.MaxSide)}
		if r.Intn(3) == 0 {
			counts[r.Intn(3)] = 1
		}
		if r.Intn(2) == 0 {
			counts = [3]int64{1 + counts[0]%5, 1 + counts[1]%5, 1 + counts[2]%5}
		}
		if counts[0]*counts[1]*counts[2] <= impl.MaxPoints {
			return counts
		}
	}
}

// randomGrid returns a grid with numbers of a usual size.
func randomGrid(r *rand.Rand) impl.Grid {
	counts := allowedCounts(r)
	g := grid(randomPoint(r, 4), r.Float32()+0.01, counts[0], counts[1], counts[2])
	for range counts[0] * counts[1] * counts[2] {
		g.Values = append(g.Values, r.Float32()*8-4)
	}
	return g
}

// oddGrid returns a valid grid some of whose numbers are of any size.
func oddGrid(r *rand.Rand, numbers []float32) impl.Grid {
	g := randomGrid(r)
	steps := positives(numbers)
	for axis := range 3 {
		if x := numbers[r.Intn(len(numbers))]; r.Intn(3) == 0 && toldFinite(x) {
			*partOf(&g.Low, axis) = x
		}
	}
	if r.Intn(3) == 0 {
		g.Step = steps[r.Intn(len(steps))]
	}
	often := 1 + r.Intn(20)
	for i := range g.Values {
		if r.Intn(often) == 0 {
			g.Values[i] = numbers[r.Intn(len(numbers))]
		}
	}
	return g
}

// wholeGrid returns a grid of small integers, where all that is computed is exact.
func wholeGrid(r *rand.Rand) impl.Grid {
	g := randomGrid(r)
	g.Low, g.Step = vec(float32(r.Intn(9)-4), float32(r.Intn(9)-4), float32(r.Intn(9)-4)), float32(int(1)<<r.Intn(4))/2
	for i := range g.Values {
		g.Values[i] = float32(r.Intn(41) - 20)
	}
	return g
}

// validGrids returns grids at the limits of what is valid.
func validGrids() map[string]impl.Grid {
	odd := oddNumbers()
	grids := map[string]impl.Grid{
		"one point":                  unitGrid(1, 1, 1, 5),
		"two points along each axis": numberedGrid(2, 2, 2),
		"three counts":               numberedGrid(2, 3, 4),
		"1024 points, 16 16 4":       numberedGrid(16, 16, 4),
		"1024 points, 16 4 16":       numberedGrid(16, 4, 16),
		"1024 points, 4 16 16":       numberedGrid(4, 16, 16),
		"1024 points, 8 8 16":        numberedGrid(8, 8, 16),
		"1000 points":                numberedGrid(10, 10, 10),
		"a layer, 16 16 1":           numberedGrid(16, 16, 1),
		"a layer, 16 1 16":           numberedGrid(16, 1, 16),
		"a layer, 1 16 16":           numberedGrid(1, 16, 16),
		"odd values":                 lineGrid(1, odd[:16]...),
		"a Low of -0":                grid(vec(minusZero, minusZero, minusZero), 1, 2, 1, 1, 3, 4),
		"the greatest Low":           grid(vec(greatest, -greatest, greatest), 1, 2, 1, 1, 3, 4),
		"the least Step":             grid(impl.Vector{}, num(1), 2, 1, 1, 3, 4),
		"a subnormal Step":           grid(impl.Vector{}, num(0x007fffff), 1, 2, 1, 3, 4),
		"the greatest Step":          grid(impl.Vector{}, greatest, 1, 1, 2, 3, 4),
	}
	for axis := range 3 {
		grids[fmt.Sprint("16 points along the axis ", axis)] = lineGrid(axis, filled(16, float32(axis))...)
	}
	return grids
}

// invalidGrids returns grids each of which has one thing that is not allowed.
func invalidGrids() map[string]impl.Grid {
	grids := map[string]impl.Grid{"nothing": {}}
	put := func(what string, change func(g *impl.Grid)) {
		g := numberedGrid(2, 2, 2)
		change(&g)
		grids[what] = g
	}
	for axis := range 3 {
		for _, x := range []float32{infinite, -infinite, notNumber} {
			put(fmt.Sprint("Low ", axis, " ", x), func(g *impl.Grid) { *partOf(&g.Low, axis) = x })
		}
		for _, count := range oddCounts() {
			if count != 2 {
				put(fmt.Sprint("count ", axis, " ", count), func(g *impl.Grid) { *countOf(g, axis) = count })
			}
		}
		line := lineGrid(axis, filled(17, 1)...)
		grids[fmt.Sprint("17 points along the axis ", axis)] = line
		line = lineGrid(axis, 1)
		*countOf(&line, axis), *countOf(&line, (axis+1)%3) = -1, -1
		grids[fmt.Sprint("two counts of -1 from the axis ", axis)] = line
		none := lineGrid(axis)
		grids[fmt.Sprint("no point along the axis ", axis)] = none
	}
	for i, x := range notSteps() {
		put(fmt.Sprint("Step ", i, " ", x), func(g *impl.Grid) { g.Step = x })
	}
	for _, c := range [][3]int64{{16, 13, 5}, {13, 5, 16}, {5, 16, 13}, {16, 16, 5}, {16, 16, 16}, {11, 11, 9}} {
		grids[fmt.Sprint("too many points, ", c)] = numberedGrid(c[0], c[1], c[2])
	}
	for _, count := range []int{0, 1, 4, 7, 9, 16, 100000} {
		put(fmt.Sprint(count, " values"), func(g *impl.Grid) { g.Values = filled(count, 1) })
	}
	grids["a product that overflows to 0"] = unitGrid(1<<32, 1<<32, 1)
	grids["a product that overflows to 8"] = unitGrid(1<<62, 1<<62, 2, filled(8, 1)...)
	grids["a product that overflows to 1"] = unitGrid(math.MaxInt64, math.MaxInt64, 1, 1)
	grids["no value of one point"] = unitGrid(1, 1, 1)
	grids["two values of one point"] = unitGrid(1, 1, 1, 1, 2)
	grids["1025 values"] = unitGrid(16, 16, 4, filled(1025, 1)...)
	grids["1023 values"] = unitGrid(16, 16, 4, filled(1023, 1)...)
	return grids
}

// refusedByGridFunctions checks that all functions fail for a grid that is not valid.
func refusedByGridFunctions(t *testing.T, what string, g impl.Grid) {
	t.Helper()
	v, ok := impl.GridPoint(g, 0, 0, 0)
	fails(t, what+", GridPoint", v, ok)
	x, ok := impl.GridValue(g, 0, 0, 0)
	fails(t, what+", GridValue", x, ok)
	x, ok = impl.ValueBetween(g, vec(0.5, 0.25, 0))
	fails(t, what+", ValueBetween", x, ok)
	v, ok = impl.SlopeBetween(g, vec(0.5, 0.25, 0))
	fails(t, what+", SlopeBetween", v, ok)
	made, ok := impl.CropGrid(g, []int64{0, 0, 0}, []int64{1, 1, 1})
	failsGrid(t, what+", CropGrid", made, ok)
	made, ok = impl.HalveGrid(g)
	failsGrid(t, what+", HalveGrid", made, ok)
	count, ok := impl.CountInside(g)
	fails(t, what+", CountInside", count, ok)
	x, ok = impl.VolumeOf(g)
	fails(t, what+", VolumeOf", x, ok)
	count, ok = impl.EdgesCrossed(g)
	fails(t, what+", EdgesCrossed", count, ok)
	for _, sweeps := range []int64{0, 1, 32} {
		made, ok = impl.SweepGrid(g, sweeps)
		failsGrid(t, what+", SweepGrid", made, ok)
	}
	made, count, ok = impl.SpreadGrid(g)
	failsGrid(t, what+", SpreadGrid", made, ok)
	equal(t, what+", sweeps of SpreadGrid", count, 0)
	parts, count, ok := impl.PartsInside(g)
	failsList(t, what+", PartsInside", parts, ok)
	equal(t, what+", count of PartsInside", count, 0)
	for _, kind := range []int64{impl.NodeUnion, impl.NodeCut, impl.NodeLess} {
		for _, other := range []impl.Grid{numberedGrid(2, 2, 2), g} {
			made, ok = impl.JoinGrids(kind, g, other)
			failsGrid(t, what+", JoinGrids", made, ok)
			made, ok = impl.JoinGrids(kind, other, g)
			failsGrid(t, what+", JoinGrids", made, ok)
		}
	}
}
