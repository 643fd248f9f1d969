package tests

import (
	"fmt"
	"math"
	"slices"
	"testing"

	"loop.example/g01193/impl"
)

func sweptIs(t *testing.T, what string, g impl.Grid, sweeps int64, want ...float32) {
	t.Helper()
	got, ok := impl.SweepGrid(g, sweeps)
	wanted := copyGrid(g)
	wanted.Values = want
	makesGrid(t, fmt.Sprint(what, ", ", sweeps, " sweeps"), got, ok, wanted)
}

func spreadIs(t *testing.T, what string, g impl.Grid, count int64, want ...float32) {
	t.Helper()
	got, sweeps, ok := impl.SpreadGrid(g)
	wanted := copyGrid(g)
	wanted.Values = want
	makesGrid(t, what+", SpreadGrid", got, ok, wanted)
	equal(t, what+", sweeps of SpreadGrid", sweeps, count)
	// These sweeps do the same, and one less does not.
	sweptIs(t, what, g, count, want...)
	if count > 0 {
		before, _ := impl.SweepGrid(g, count-1)
		equal(t, what+", one sweep less", equalGrids(before, wanted), false)
	}
}

func TestSweepGrid(t *testing.T) {
	for axis := range 3 {
		right, left := lineGrid(axis, 0, 9, 9, 9), lineGrid(axis, 9, 9, 9, 0)
		sweptIs(t, "to the right", right, 0, 0, 9, 9, 9)
		sweptIs(t, "to the right", right, 1, 0, 1, 2, 3)
		sweptIs(t, "to the right", right, 2, 0, 1, 2, 3)
		sweptIs(t, "to the left", left, 0, 9, 9, 9, 0)
		sweptIs(t, "to the left", left, 1, 9, 9, 1, 0)
		sweptIs(t, "to the left", left, 2, 3, 2, 1, 0)
		sweptIs(t, "to the left", left, 3, 3, 2, 1, 0)
		sweptIs(t, "to both sides", lineGrid(axis, 9, 9, 9, -1, 9, 9), 1, 9, 9, 0, -1, 0, 1)
		sweptIs(t, "to both sides", lineGrid(axis, 9, 9, 9, -1, 9, 9), 2, 2, 1, 0, -1, 0, 1)
		sweptIs(t, "from both sides", lineGrid(axis, 0, 9, 9, 9, 9, 1), 1, 0, 1, 2, 3, 2, 1)
		step := lineGrid(axis, 0, 9, 9, 9)
		step.Step = 0.25
		sweptIs(t, "a quarter", step, 1, 0, 0.25, 0.5, 0.75)
		step.Step = 4
		sweptIs(t, "four", step, 1, 0, 4, 8, 9)
		step.Step = 9
		sweptIs(t, "as much as there is", step, 32, 0, 9, 9, 9)
	}
	flat := unitGrid(3, 3, 1, 9, 9, 9, 9, 0, 9, 9, 9, 9)
	sweptIs(t, "a layer", flat, 1, 9, 1, 2, 1, 0, 1, 2, 1, 2)
	sweptIs(t, "a layer", flat, 2, 2, 1, 2, 1, 0, 1, 2, 1, 2)
	sweptIs(t, "a first corner", unitGrid(2, 2, 2, 0, 9, 9, 9, 9, 9, 9, 9), 1, 0, 1, 1, 2, 1, 2, 2, 3)
	last := unitGrid(2, 2, 2, 9, 9, 9, 9, 9, 9, 9, 0)
	sweptIs(t, "a last corner", last, 1, 9, 9, 9, 1, 9, 1, 1, 0)
	sweptIs(t, "a last corner", last, 2, 3, 2, 2, 1, 2, 1, 1, 0)
	sweptIs(t, "rows are no neighbours", unitGrid(3, 2, 1, 9, 9, 0, 9, 9, 9), 1, 9, 1, 0, 9, 2, 1)
}

// TestSweepsOfOddValues has values that are no numbers, which nothing goes through, and ones of other sizes.
func TestSweepsOfOddValues(t *testing.T) {
	for axis := range 3 {
		line := func(values ...float32) impl.Grid { return lineGrid(axis, values...) }
		spreadIs(t, "a wall", line(0, notNumber, 9, 9, 4), 2, 0, notNumber, 6, 5, 4)
		spreadIs(t, "walls", line(notNumber, notNumber), 0, notNumber, notNumber)
		spreadIs(t, "infinities", line(infinite, infinite, infinite), 0, infinite, infinite, infinite)
		spreadIs(t, "a number among infinities", line(infinite, 5, infinite, infinite), 1, 6, 5, 6, 7)
		spreadIs(t, "a negative infinity", line(9, -infinite, 9, infinite), 1, -infinite, -infinite, -infinite, -infinite)
		spreadIs(t, "zeros of both signs", line(-1, minusZero, 0), 0, -1, minusZero, 0)
		spreadIs(t, "a difference of a step", line(minusZero, 1, 0), 0, minusZero, 1, 0)
		spreadIs(t, "a sum that is a zero", line(-1, 5), 1, -1, 0)
		spreadIs(t, "a step that is lost", line(1e20, infinite, 2e20, infinite), 1, 1e20, 1e20, 1e20, 1e20)
		spreadIs(t, "the greatest number", line(greatest, infinite), 1, greatest, greatest)
		g := line(greatest, infinite)
		g.Step = greatest
		spreadIs(t, "a sum that overflows", g, 0, greatest, infinite)
		g = line(-greatest, infinite, infinite, infinite)
		g.Step = greatest
		spreadIs(t, "a great Step", g, 1, -greatest, 0, greatest, infinite)
		g = line(0, 1, 1)
		g.Step = num(1)
		spreadIs(t, "the least Step", g, 1, 0, num(1), num(2))
		g = line(0, 1, 1, 1)
		g.Step = 0.1
		spreadIs(t, "sums that are rounded", g, 1, 0, 0.1, 0.2, sum(sum(0.1, 0.1), 0.1))
	}
}

func TestSweepsAreRefused(t *testing.T) {
	g := numberedGrid(3, 3, 3)
	for _, sweeps := range []int64{-1, -2, 33, 34, 1000, 1 << 32, 1<<32 + 1, -1 << 32, math.MaxInt64, math.MinInt64} {
		got, ok := impl.SweepGrid(g, sweeps)
		failsGrid(t, fmt.Sprint(sweeps, " sweeps"), got, ok)
	}
	for sweeps := range int64(33) {
		sweptIs(t, "nothing to do", unitGrid(1, 1, 1, 3), sweeps, 3)
	}
}

// stairs returns a grid that is walled up but for a path of so many steps, which go up and down the indices by turns, so
// that each sweep takes one step. All values on it are infinite but for the first one, which is 0. It also returns the
// indices of the path.
func stairs(steps int) (impl.Grid, []int) {
	g := levelGrid(16, 16, 4, notNumber)
	x, y, z := 0, 15, 0
	var path []int
	for i := range steps + 1 {
		path = append(path, x+16*(y+16*z))
		// The path goes along the layer of the first z to its end, and then up from there.
		switch {
		case i%2 == 0 && i < 30:
			x++
		case i%2 == 1 && i < 30:
			y--
		case i%2 == 0:
			z++
		default:
			x--
		}
	}
	for _, i := range path {
		g.Values[i] = infinite
	}
	g.Values[path[0]] = 0
	return g, path
}

func TestSweepsOfStairs(t *testing.T) {
	for steps := range 33 {
		g, path := stairs(steps)
		want := copyGrid(g)
		for i, index := range path {
			want.Values[index] = float32(i)
		}
		spreadIs(t, fmt.Sprint(steps, " steps"), g, int64(steps), want.Values...)
	}
	g, path := stairs(33)
	got, count, ok := impl.SpreadGrid(g)
	failsGrid(t, "a step too many", got, ok)
	equal(t, "sweeps of a step too many", count, 0)
	for sweeps := range int64(33) {
		want := copyGrid(g)
		for i, index := range path[:sweeps+1] {
			want.Values[index] = float32(i)
		}
		sweptIs(t, "a step too many", g, sweeps, want.Values...)
	}
	// What is left behind 32 sweeps takes one more, which is the first one then.
	swept, _ := impl.SweepGrid(g, 32)
	got, count, ok = impl.SpreadGrid(swept)
	equal(t, "the rest succeeds", ok, true)
	equal(t, "the rest", count, 1)
	same(t, "the end of the path", got.Values[path[33]], 33)
}

func TestSpreadGrid(t *testing.T) {
	spreadIs(t, "one point", unitGrid(1, 1, 1, 5), 0, 5)
	spreadIs(t, "one level", levelGrid(2, 2, 1, 3), 0, 3, 3, 3, 3)
	spreadIs(t, "a slope", lineGrid(0, 0, 1, 2, 3), 0, 0, 1, 2, 3)
	spreadIs(t, "to the right", lineGrid(1, 0, 9, 9, 9), 1, 0, 1, 2, 3)
	spreadIs(t, "to the left", lineGrid(2, 9, 9, 9, 0), 2, 3, 2, 1, 0)
	spreadIs(t, "a step to the left", lineGrid(2, 9, 0, 1), 1, 1, 0, 1)
	spreadIs(t, "a first value that stays", lineGrid(0, 9, 9, -1, 9), 2, 1, 0, -1, 0)
	wide := levelGrid(16, 16, 4, infinite)
	wide.Values[16*16*2+16*7+5] = -3
	want := copyGrid(wide)
	for i := range want.Values {
		x, y, z := i%16-5, i/16%16-7, i/256-2
		want.Values[i] = float32(max(x, -x)+max(y, -y)+max(z, -z)) - 3
	}
	spreadIs(t, "over the whole grid", wide, 2, want.Values...)
}

func partsAre(t *testing.T, what string, g impl.Grid, count int64, want ...int64) {
	t.Helper()
	parts, got, ok := impl.PartsInside(g)
	equal(t, what+", PartsInside", fmt.Sprint(parts, got, ok), fmt.Sprint(want, count, true))
}

func TestPartsAlongAxes(t *testing.T) {
	for axis := range 3 {
		line := func(values ...float32) impl.Grid { return lineGrid(axis, values...) }
		partsAre(t, "no part", line(0, 1, minusZero, infinite, notNumber), 0, -1, -1, -1, -1, -1)
		partsAre(t, "one part", line(-1, -2, -infinite, num(0x80000001)), 1, 0, 0, 0, 0)
		partsAre(t, "two parts", line(-1, 1, -1), 2, 0, -1, 1)
		partsAre(t, "a first point outside", line(1, -1, -1, notNumber, -1, minusZero, -2), 3, -1, 0, 0, -1, 1, -1, 2)
		partsAre(t, "one point", line(-1), 1, 0)
		partsAre(t, "one point outside", line(1), 0, -1)
	}
}

func TestPartsThatTouch(t *testing.T) {
	partsAre(t, "at a corner of a layer", unitGrid(2, 2, 1, -1, 1, 1, -1), 2, 0, -1, -1, 1)
	partsAre(t, "at the other corner of a layer", unitGrid(2, 2, 1, 1, -1, -1, 1), 2, -1, 0, 1, -1)
	partsAre(t, "at a corner of a layer along X and Z", unitGrid(2, 1, 2, -1, 1, 1, -1), 2, 0, -1, -1, 1)
	partsAre(t, "at a corner of a layer along Y and Z", unitGrid(1, 2, 2, -1, 1, 1, -1), 2, 0, -1, -1, 1)
	partsAre(t, "at a corner", unitGrid(2, 2, 2, -1, 1, 1, 1, 1, 1, 1, -1), 2, 0, -1, -1, -1, -1, -1, -1, 1)
	partsAre(t, "the end of a row and the next one", unitGrid(2, 2, 1, 1, -1, -1, 1), 2, -1, 0, 1, -1)
	partsAre(t, "the end of a longer row and the next one", unitGrid(3, 2, 1, 1, 1, -1, -1, 1, 1), 2, -1, -1, 0, 1, -1, -1)
	partsAre(t, "the end of a layer and the next one", unitGrid(2, 2, 2, 1, 1, 1, -1, -1, 1, 1, 1), 2, -1, -1, -1, 0, 1, -1, -1, -1)
	partsAre(t, "along X", unitGrid(2, 2, 1, -1, -1, 1, 1), 1, 0, 0, -1, -1)
	partsAre(t, "along Y", unitGrid(2, 2, 1, 1, -1, 1, -1), 1, -1, 0, -1, 0)
	partsAre(t, "along Z", unitGrid(2, 1, 2, 1, -1, 1, -1), 1, -1, 0, -1, 0)
	partsAre(t, "three in a row", unitGrid(3, 3, 1, -1, -1, -1, 1, 1, 1, -1, -1, -1), 2, 0, 0, 0, -1, -1, -1, 1, 1, 1)
}

// TestPartsThatAreJoinedLate has arms that meet behind what lies between them.
func TestPartsThatAreJoinedLate(t *testing.T) {
	partsAre(t, "two arms", unitGrid(3, 3, 1, -1, 1, -1, -1, 1, -1, -1, -1, -1), 1, 0, -1, 0, 0, -1, 0, 0, 0, 0)
	partsAre(t, "two arms to the left", unitGrid(3, 3, 1, -1, -1, -1, 1, 1, -1, -1, -1, -1), 1, 0, 0, 0, -1, -1, 0, 0, 0, 0)
	partsAre(t, "three arms and a part between", unitGrid(5, 3, 1,
		-1, 1, -1, 1, -1,
		-1, 1, 1, 1, -1,
		-1, -1, -1, -1, -1), 2,
		0, -1, 1, -1, 0,
		0, -1, -1, -1, 0,
		0, 0, 0, 0, 0)
	partsAre(t, "a step back", unitGrid(4, 2, 1, 1, 1, 1, -1, -1, -1, -1, -1), 1, -1, -1, -1, 0, 0, 0, 0, 0)
	partsAre(t, "an arm that begins later but is met first", unitGrid(4, 3, 1,
		1, -1, 1, -1,
		1, -1, 1, -1,
		-1, -1, 1, -1), 2,
		-1, 0, -1, 1,
		-1, 0, -1, 1,
		0, 0, -1, 1)
	partsAre(t, "arms that meet in the last layer", unitGrid(3, 1, 3, -1, 1, -1, -1, 1, -1, -1, -1, -1), 1, 0, -1, 0, 0, -1, 0, 0, 0, 0)
	for steps := range 33 {
		g, path := stairs(steps)
		want := slices.Repeat([]int64{-1}, 1024)
		for _, i := range path {
			g.Values[i] = -1
			want[i] = 0
		}
		partsAre(t, "a path", g, 1, want...)
	}
}

func TestManyParts(t *testing.T) {
	for _, size := range [][3]int64{{16, 16, 4}, {16, 4, 16}, {4, 16, 16}, {16, 1, 16}, {3, 3, 3}} {
		for odd := range int64(2) {
			g := levelGrid(size[0], size[1], size[2], 1)
			var want []int64
			count := int64(0)
			for i := range size[0] * size[1] * size[2] {
				part := int64(-1)
				if (i%size[0]+i/size[0]%size[1]+i/size[0]/size[1])%2 == odd {
					g.Values[i] = -1
					part = count
					count++
				}
				want = append(want, part)
			}
			partsAre(t, fmt.Sprint("a board of ", size), g, count, want...)
		}
	}
	partsAre(t, "all in one", levelGrid(16, 16, 4, -1), 1, make([]int64, 1024)...)
	partsAre(t, "none at all", levelGrid(16, 16, 4, 1), 0, slices.Repeat([]int64{-1}, 1024)...)
}
