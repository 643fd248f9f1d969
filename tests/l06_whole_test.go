package tests

import (
	"fmt"
	"math"
	"testing"

	"loop.example/g01193/impl"
)

func TestJoinGrids(t *testing.T) {
	a := []float32{1, 2, -1, -2, 0, minusZero, 0, minusZero, infinite, -infinite, notNumber, 3, 3, -3}
	b := []float32{2, 1, -2, -1, minusZero, 0, 0, minusZero, 4, 4, 5, notNumber, 3, 3}
	for _, c := range []struct {
		kind int64
		want []float32
	}{
		{impl.NodeUnion, []float32{1, 1, -2, -2, 0, minusZero, 0, minusZero, 4, -infinite, notNumber, 3, 3, -3}},
		{impl.NodeCut, []float32{2, 2, -1, -1, 0, minusZero, 0, minusZero, infinite, 4, notNumber, 3, 3, 3}},
		{impl.NodeLess, []float32{1, 2, 2, 1, 0, minusZero, 0, minusZero, infinite, -4, notNumber, 3, 3, -3}},
	} {
		for axis := range 3 {
			got, ok := impl.JoinGrids(c.kind, lineGrid(axis, a...), lineGrid(axis, b...))
			makesGrid(t, fmt.Sprint("the kind ", c.kind), got, ok, lineGrid(axis, c.want...))
		}
	}
	low := vec(minusZero, 1, -3)
	got, ok := impl.JoinGrids(impl.NodeCut, grid(low, 0.25, 1, 2, 1, 3, 4), grid(low, 0.25, 1, 2, 1, 4, 3))
	makesGrid(t, "fields that stay", got, ok, grid(low, 0.25, 1, 2, 1, 4, 4))
	for what, g := range validGrids() {
		got, ok := impl.JoinGrids(impl.NodeUnion, g, g)
		makesGrid(t, what+" with itself", got, ok, g)
	}
}

func TestJoinGridsFails(t *testing.T) {
	g := numberedGrid(2, 2, 2)
	kinds := []int64{-1, -2, 17, 18, 100, 1<<32 + impl.NodeUnion, 1 << 32, math.MaxInt64, math.MinInt64}
	for kind := range int64(17) {
		if kind != impl.NodeUnion && kind != impl.NodeCut && kind != impl.NodeLess {
			kinds = append(kinds, kind)
		}
	}
	for _, kind := range kinds {
		got, ok := impl.JoinGrids(kind, g, g)
		failsGrid(t, fmt.Sprint("the kind ", kind), got, ok)
		got, ok = impl.JoinGrids(kind, impl.Grid{}, impl.Grid{})
		failsGrid(t, fmt.Sprint("the kind ", kind, " of nothing"), got, ok)
	}
	others := map[string]impl.Grid{"another Step": copyGrid(g), "counts exchanged": numberedGrid(4, 2, 1), "fewer points": numberedGrid(2, 2, 1), "more points": numberedGrid(2, 2, 3)}
	other := others["another Step"]
	other.Step = num(0x3f800001)
	others["another Step"] = other
	for axis := range 3 {
		for what, x := range map[string]float32{"another": 1, "a little more": num(1), "-0 as": minusZero} {
			other := copyGrid(g)
			*partOf(&other.Low, axis) = x
			others[fmt.Sprint(what, " Low ", axis)] = other
		}
		other := numberedGrid(2, 2, 2)
		*countOf(&other, axis), *countOf(&other, (axis+1)%3) = 4, 1
		others[fmt.Sprint("counts 4 and 1 from ", axis)] = other
	}
	for what, other := range others {
		equal(t, what+" is valid", impl.ValidGrid(other), true)
		for _, kind := range []int64{impl.NodeUnion, impl.NodeCut, impl.NodeLess} {
			got, ok := impl.JoinGrids(kind, g, other)
			failsGrid(t, what, got, ok)
			got, ok = impl.JoinGrids(kind, other, g)
			failsGrid(t, what+", the other way", got, ok)
		}
	}
}

func TestCropGrid(t *testing.T) {
	g := numberedGrid(4, 3, 2)
	for _, c := range []struct {
		from, counts []int64
		want         impl.Grid
	}{
		{[]int64{0, 0, 0}, []int64{4, 3, 2}, g},
		{[]int64{0, 0, 0}, []int64{1, 1, 1}, unitGrid(1, 1, 1, 0)},
		{[]int64{3, 0, 0}, []int64{1, 3, 2}, grid(vec(3, 0, 0), 1, 1, 3, 2, 3, 7, 11, 15, 19, 23)},
		{[]int64{0, 2, 0}, []int64{4, 1, 2}, grid(vec(0, 2, 0), 1, 4, 1, 2, 8, 9, 10, 11, 20, 21, 22, 23)},
		{[]int64{0, 0, 1}, []int64{4, 3, 1}, grid(vec(0, 0, 1), 1, 4, 3, 1, 12, 13, 14, 15, 16, 17, 18, 19, 20, 21, 22, 23)},
		{[]int64{3, 2, 1}, []int64{1, 1, 1}, grid(vec(3, 2, 1), 1, 1, 1, 1, 23)},
		{[]int64{1, 1, 0}, []int64{2, 1, 2}, grid(vec(1, 1, 0), 1, 2, 1, 2, 5, 6, 17, 18)},
		{[]int64{2, 1, 1}, []int64{2, 2, 1}, grid(vec(2, 1, 1), 1, 2, 2, 1, 18, 19, 22, 23)},
	} {
		got, ok := impl.CropGrid(g, c.from, c.counts)
		makesGrid(t, fmt.Sprint("from ", c.from, ", ", c.counts), got, ok, c.want)
	}
	half := numberedGrid(3, 1, 1)
	half.Low, half.Step = vec(-0.3, 5, minusZero), 0.1
	got, ok := impl.CropGrid(half, []int64{2, 0, 0}, []int64{1, 1, 1})
	makesGrid(t, "a Low that is rounded, and -0", got, ok, grid(vec(sum(-0.3, product(0.1, 2)), 5, 0), 0.1, 1, 1, 1, 2))
	odd := lineGrid(1, notNumber, infinite, minusZero, -infinite)
	got, ok = impl.CropGrid(odd, []int64{0, 0, 0}, []int64{1, 3, 1})
	makesGrid(t, "odd values", got, ok, lineGrid(1, notNumber, infinite, minusZero))
	for what, g := range validGrids() {
		got, ok := impl.CropGrid(g, []int64{0, 0, 0}, []int64{g.X, g.Y, g.Z})
		g.Low = toldAdd(g.Low, vec(0, 0, 0))
		makesGrid(t, what+", all of it", got, ok, g)
	}
}

func TestCropGridFails(t *testing.T) {
	g := numberedGrid(4, 3, 2)
	refused := func(what string, from, counts []int64) {
		got, ok := impl.CropGrid(g, from, counts)
		failsGrid(t, fmt.Sprint(what, ", from ", from, ", ", counts), got, ok)
	}
	sizes := [3]int64{4, 3, 2}
	for axis := range 3 {
		for first := range sizes[axis] + 2 {
			for _, count := range append(oddCounts(), -first, 1-first, math.MaxInt64-first, math.MaxInt64-first+1) {
				from, counts := []int64{0, 0, 0}, []int64{1, 1, 1}
				from[axis], counts[axis] = first, count
				if first >= sizes[axis] || count < 1 || count > sizes[axis]-first {
					refused("a count", from, counts)
				}
			}
		}
		for _, first := range append(oddCounts(), sizes[axis], -sizes[axis]) {
			from, counts := []int64{0, 0, 0}, []int64{1, 1, 1}
			from[axis] = first
			if first < 0 || first >= sizes[axis] {
				refused("an index", from, counts)
				counts[axis] = 2 - first
				refused("an index", from, counts)
			}
		}
	}
	lists := [][]int64{nil, {}, {0}, {0, 0}, {0, 0, 0, 0}, {1, 1, 1, 1}, {1, 1}, make([]int64, 100000)}
	for _, list := range lists {
		refused("a list of another length", list, []int64{1, 1, 1})
		refused("a list of another length", []int64{0, 0, 0}, list)
		refused("two lists of another length", list, list)
	}
	far := grid(vec(0, 0, 0), greatest, 3, 1, 1, 1, 2, 3)
	got, ok := impl.CropGrid(far, []int64{1, 0, 0}, []int64{2, 1, 1})
	makesGrid(t, "the greatest Low", got, ok, grid(vec(greatest, 0, 0), greatest, 2, 1, 1, 2, 3))
	got, ok = impl.CropGrid(far, []int64{2, 0, 0}, []int64{1, 1, 1})
	failsGrid(t, "a Low that is not finite", got, ok)
}

// TestCornersOfParts takes a part from each corner.
func TestCornersOfParts(t *testing.T) {
	for _, size := range [][3]int64{{16, 16, 4}, {4, 16, 16}, {3, 4, 5}, {2, 2, 2}, {2, 1, 2}} {
		g := numberedGrid(size[0], size[1], size[2])
		for corner := range 8 {
			from, counts := []int64{0, 0, 0}, []int64{(size[0] + 1) / 2, (size[1] + 1) / 2, (size[2] + 1) / 2}
			for axis := range 3 {
				if corner>>axis&1 == 1 {
					from[axis] = size[axis] - counts[axis]
				}
			}
			got, ok := impl.CropGrid(g, from, counts)
			makesGrid(t, fmt.Sprint("the corner ", corner, " of ", size), got, ok, toldCrop(g, from, counts))
		}
	}
}

func TestHalveGrid(t *testing.T) {
	for _, c := range []struct {
		g    impl.Grid
		want impl.Grid
	}{
		{unitGrid(1, 1, 1, 7), grid(vec(0, 0, 0), 2, 1, 1, 1, 7)},
		{lineGrid(0, 1, 2), grid(vec(0, 0, 0), 2, 1, 1, 1, 1)},
		{lineGrid(0, 1, 2, 3), grid(vec(0, 0, 0), 2, 2, 1, 1, 1, 3)},
		{lineGrid(1, 1, 2, 3, 4), grid(vec(0, 0, 0), 2, 1, 2, 1, 1, 3)},
		{lineGrid(2, 1, 2, 3, 4, 5), grid(vec(0, 0, 0), 2, 1, 1, 3, 1, 3, 5)},
		{numberedGrid(3, 4, 2), grid(vec(0, 0, 0), 2, 2, 2, 1, 0, 2, 6, 8)},
		{numberedGrid(3, 3, 3), grid(vec(0, 0, 0), 2, 2, 2, 2, 0, 2, 6, 8, 18, 20, 24, 26)},
		{grid(vec(minusZero, 2, -7), 0.75, 2, 2, 1, minusZero, 1, 2, 3), grid(vec(minusZero, 2, -7), 1.5, 1, 1, 1, minusZero)},
		{grid(vec(0, 0, 0), num(1), 1, 1, 1, 4), grid(vec(0, 0, 0), num(2), 1, 1, 1, 4)},
		{grid(vec(greatest, 0, 0), num(0x7effffff), 1, 1, 1, 4), grid(vec(greatest, 0, 0), greatest, 1, 1, 1, 4)},
		{lineGrid(1, notNumber, 1, infinite), grid(vec(0, 0, 0), 2, 1, 2, 1, notNumber, infinite)},
	} {
		got, ok := impl.HalveGrid(c.g)
		makesGrid(t, fmt.Sprint("half of ", c.g), got, ok, c.want)
	}
	for _, step := range []float32{num(0x7f000000), greatest, num(0x7f000001)} {
		got, ok := impl.HalveGrid(grid(vec(0, 0, 0), step, 3, 1, 1, 1, 2, 3))
		failsGrid(t, fmt.Sprint("a Step of ", step), got, ok)
	}
}

// TestHalvesOfHalves halves grids until one point is left, and once more.
func TestHalvesOfHalves(t *testing.T) {
	for _, size := range [][3]int64{{16, 16, 4}, {15, 1, 16}, {9, 10, 11}, {1, 1, 13}, {1, 7, 1}} {
		g := numberedGrid(size[0], size[1], size[2])
		step := float32(1)
		for times := 1; times <= 6; times++ {
			want := toldHalf(g)
			half, ok := impl.HalveGrid(g)
			makesGrid(t, fmt.Sprint("half of ", size, ", ", times, " times"), half, ok, want)
			step *= 2
			same(t, "its Step", half.Step, step)
			if times >= 4 {
				makesGrid(t, "what is left", half, ok, grid(vec(0, 0, 0), step, 1, 1, 1, 0))
			}
			g = half
		}
	}
}

func TestCountsInside(t *testing.T) {
	values := []float32{-1, 1, 0, minusZero, num(1), num(0x80000001), infinite, -infinite, notNumber, num(0xffc00000), -greatest, greatest}
	for axis := range 3 {
		count, ok := impl.CountInside(lineGrid(axis, values...))
		equal(t, "values inside", fmt.Sprint(count, ok), "4 true")
	}
	for _, c := range []struct {
		g    impl.Grid
		want int64
	}{
		{levelGrid(16, 16, 4, -1), 1024}, {levelGrid(16, 16, 4, 1), 0}, {levelGrid(2, 3, 4, minusZero), 0}, {unitGrid(1, 1, 1, -1), 1}, {unitGrid(1, 1, 1, 0), 0},
	} {
		count, ok := impl.CountInside(c.g)
		equal(t, "CountInside", fmt.Sprint(count, ok), fmt.Sprint(c.want, true))
	}
}

// TestVolumeOf has products that are rounded, or lost, in another order.
func TestVolumeOf(t *testing.T) {
	for _, c := range []struct {
		inside int
		step   float32
		want   float32
	}{
		{0, 1, 0}, {1, 1, 1}, {3, 2, 24}, {1024, 0.5, 128}, {0, greatest, 0}, {1, 1 << 40, 0x1p120}, {1, 1e13, infinite}, {1, greatest, infinite},
		{1000, num(1), 0}, {7, 0.1, toldCubes(7, 0.1)}, {3, num(0x1e800001), toldCubes(3, num(0x1e800001))},
		// The cube of this step alone would be a zero.
		{1000, 0x1p-51, num(62)},
	} {
		g := grid(vec(0, 0, 0), c.step, 16, 16, 4, append(filled(c.inside, -1), filled(1024-c.inside, 1)...)...)
		got, ok := impl.VolumeOf(g)
		succeeds(t, fmt.Sprint("the volume of ", c.inside, " points with the step ", c.step), got, ok, c.want)
	}
}

func crossingsAre(t *testing.T, what string, g impl.Grid, want int64) {
	t.Helper()
	count, ok := impl.EdgesCrossed(g)
	equal(t, what+", EdgesCrossed", fmt.Sprint(count, ok), fmt.Sprint(want, true))
}

func TestEdgesCrossed(t *testing.T) {
	for axis := range 3 {
		for _, c := range []struct {
			values []float32
			want   int64
		}{
			{[]float32{-1}, 0}, {[]float32{-1, 1}, 1}, {[]float32{1, -1}, 1}, {[]float32{-1, -1}, 0}, {[]float32{1, 1}, 0}, {[]float32{-1, 0}, 1}, {[]float32{minusZero, -1}, 1},
			{[]float32{0, minusZero, 1}, 0}, {[]float32{-1, notNumber, -1}, 2}, {[]float32{notNumber, notNumber}, 0}, {[]float32{-infinite, infinite, -1, -2, 3}, 3},
			{[]float32{num(0x80000001), num(1), 1, 1, -5}, 2}, {[]float32{-1, 1, 1, 1, -1}, 2},
		} {
			crossingsAre(t, fmt.Sprint(c.values, " along the axis ", axis), lineGrid(axis, c.values...), c.want)
		}
	}
	// The end of a row, or of a layer, is no neighbour of where the next one begins.
	crossingsAre(t, "rows", unitGrid(2, 2, 1, 1, -1, 1, -1), 2)
	crossingsAre(t, "rows of three", unitGrid(3, 2, 1, 1, 1, -1, 1, 1, 1), 2)
	crossingsAre(t, "layers", unitGrid(2, 2, 2, 1, 1, 1, -1, 1, 1, 1, 1), 3)
	middle := levelGrid(3, 3, 3, 1)
	middle.Values[13] = -1
	crossingsAre(t, "a point in the middle", middle, 6)
	for corner := range 8 {
		g := levelGrid(2, 2, 2, -1)
		g.Values[corner] = 2
		crossingsAre(t, "a corner", g, 3)
	}
	board := levelGrid(16, 16, 4, 1)
	for i := range board.Values {
		if (i+i/16+i/256)%2 == 0 {
			board.Values[i] = -1
		}
	}
	crossingsAre(t, "a board", board, 15*16*4+16*15*4+16*16*3)
	crossingsAre(t, "all inside", levelGrid(16, 4, 16, -1), 0)
}
