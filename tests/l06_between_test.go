package tests

import (
	"fmt"
	"testing"

	"loop.example/g01193/impl"
)

func betweenIs(t *testing.T, what string, g impl.Grid, p impl.Vector, want float32) {
	t.Helper()
	got, ok := impl.ValueBetween(g, p)
	succeeds(t, what+", ValueBetween", got, ok, want)
}

func slopeIs(t *testing.T, what string, g impl.Grid, p, want impl.Vector) {
	t.Helper()
	got, ok := impl.SlopeBetween(g, p)
	equal(t, what+", SlopeBetween succeeds", ok, true)
	sameVector(t, what+", SlopeBetween", got, want)
}

// onlyOn returns a vector with a number on an axis, and +0 on the others.
func onlyOn(axis int, x float32) impl.Vector {
	v := vec(0, 0, 0)
	*partOf(&v, axis) = x
	return v
}

// notOn returns a vector with +0 on an axis, and -0 on the others.
func notOn(axis int) impl.Vector {
	v := vec(minusZero, minusZero, minusZero)
	*partOf(&v, axis) = 0
	return v
}

// cornerGrid has a value at each corner of a cell that tells its corner.
func cornerGrid() impl.Grid { return unitGrid(2, 2, 2, 0, 1, 10, 11, 100, 101, 110, 111) }

func TestValueBetween(t *testing.T) {
	g := cornerGrid()
	for _, c := range []struct {
		p    impl.Vector
		want float32
	}{
		{vec(0, 0, 0), 0}, {vec(1, 0, 0), 1}, {vec(0, 1, 0), 10}, {vec(1, 1, 0), 11}, {vec(0, 0, 1), 100}, {vec(1, 0, 1), 101}, {vec(0, 1, 1), 110}, {vec(1, 1, 1), 111},
		{vec(0.5, 0, 0), 0.5}, {vec(0, 0.5, 0), 5}, {vec(0, 0, 0.5), 50}, {vec(0.5, 0.5, 0.5), 55.5}, {vec(0.25, 0.5, 0.75), 80.25},
		{vec(-1, 0.5, 0.5), 55}, {vec(0.5, -3, 0.5), 50.5}, {vec(0.5, 0.5, -9), 5.5}, {vec(2, 0.5, 0.5), 56}, {vec(0.5, 4, 0.5), 60.5}, {vec(0.5, 0.5, 8), 105.5},
		{vec(-greatest, -greatest, -greatest), 0}, {vec(greatest, -greatest, greatest), 101}, {vec(num(0x80000001), num(1), 0), num(0x0000000a)},
	} {
		betweenIs(t, fmt.Sprint("a cell at ", c.p), g, c.p, c.want)
	}
}

// TestPlacesAlongAxes goes along each axis over all cells and both borders.
func TestPlacesAlongAxes(t *testing.T) {
	for axis := range 3 {
		g := lineGrid(axis, 0, 8, 0, -8, 16)
		*partOf(&g.Low, axis) = -1
		g.Step = 0.5
		for _, c := range [][2]float32{
			{-1, 0}, {-0.875, 2}, {-0.5, 8}, {-0.25, 4}, {0, 0}, {0.125, -2}, {0.5, -8}, {0.625, -2}, {0.75, 4}, {1, 16},
			{1.25, 16}, {100, 16}, {1e30, 16}, {greatest, 16}, {-1.25, 0}, {-77, 0}, {-1e30, 0}, {-greatest, 0}, {num(0x3f7fffff), 16}, {num(0x3f7ffffe), 15.999994}, {num(0x3f800001), 16},
			{num(0xbf800001), 0}, {num(0xbf7fffff), 9.536743e-7},
		} {
			betweenIs(t, fmt.Sprint("along the axis ", axis, " at ", c[0]), g, onlyOn(axis, c[0]), c[1])
		}
	}
}

// TestPlacesOfOnePoint looks at grids of one point along axes, where the cell has the same point on both sides.
func TestPlacesOfOnePoint(t *testing.T) {
	for _, x := range []float32{0, 0.5, 1, -1, 1e30, -greatest} {
		betweenIs(t, "one point", unitGrid(1, 1, 1, 7), vec(x, -x, x), 7)
		betweenIs(t, "one infinite point", unitGrid(1, 1, 1, infinite), vec(x, x, x), notNumber)
		betweenIs(t, "one point that is no number", unitGrid(1, 1, 1, notNumber), vec(x, x, x), notNumber)
		betweenIs(t, "one point of -0", unitGrid(1, 1, 1, minusZero), vec(x, x, x), 0)
		betweenIs(t, "one point along two axes", unitGrid(1, 2, 1, 3, 5), vec(x, 0.5, x), 4)
		betweenIs(t, "one point along one axis", unitGrid(2, 1, 2, 3, 5, 7, 13), vec(0.5, x, 0.5), 7)
	}
	betweenIs(t, "one point of -0 at -0", unitGrid(1, 1, 1, minusZero), vec(minusZero, minusZero, minusZero), minusZero)
	for axis := range 3 {
		betweenIs(t, "one point of -0 at -0, but for an axis", unitGrid(1, 1, 1, minusZero), notOn(axis), 0)
	}
	odd := grid(vec(minusZero, minusZero, minusZero), 1, 1, 1, 1, minusZero)
	betweenIs(t, "-0 less -0", odd, vec(minusZero, minusZero, minusZero), 0)
}

// TestSignsOfPlaces checks that a share that is -0 stays so, while one that is less than 0 becomes +0.
func TestSignsOfPlaces(t *testing.T) {
	nowhere := vec(minusZero, minusZero, minusZero)
	for axis := range 3 {
		g := lineGrid(axis, minusZero, 1, 2)
		betweenIs(t, "-0 less 0", g, nowhere, minusZero)
		betweenIs(t, "0 less 0", g, vec(0, 0, 0), 0)
		before := nowhere
		*partOf(&before, axis) = num(0x80000001)
		betweenIs(t, "a little before", g, before, 0)
		*partOf(&before, axis) = -5
		betweenIs(t, "far before", g, before, 0)
		// The quotient of the least number before Low and of the step is rounded to -0.
		g.Step = 4
		*partOf(&before, axis) = num(0x80000001)
		betweenIs(t, "so little before that it is rounded away", g, before, minusZero)
		g = lineGrid(axis, minusZero, -1)
		betweenIs(t, "a lesser value behind", g, nowhere, 0)
		for other := range 3 {
			p := nowhere
			*partOf(&p, other) = 0
			want := float32(0)
			if other == axis {
				want = minusZero
			}
			betweenIs(t, fmt.Sprint("0 on the axis ", other, " of a lesser value along ", axis), g, p, want)
		}
	}
}

// TestOddValuesBetween shows values that are not finite to their neighbours, also where these are read at their point. As
// two infinities have no difference, one is left over only if it is the last corner, and no share is a zero.
func TestOddValuesBetween(t *testing.T) {
	for axis := range 3 {
		for _, c := range []struct {
			values []float32
			at     float32
			want   float32
		}{
			{[]float32{infinite, 1, 2, 3}, 0, notNumber}, {[]float32{infinite, 1, 2, 3}, 0.5, notNumber}, {[]float32{infinite, 1, 2, 3}, 1, 1},
			{[]float32{1, infinite, 2, 3}, 0, notNumber}, {[]float32{1, infinite, 2, 3}, 0.5, notNumber}, {[]float32{1, -infinite, 2, 3}, 2, 2},
			{[]float32{1, 2, 3, infinite}, 3, notNumber}, {[]float32{1, 2, 3, infinite}, 2, notNumber}, {[]float32{1, 2, 3, infinite}, 1.5, 2.5},
			{[]float32{1, notNumber, 2, 3}, 0, notNumber}, {[]float32{1, notNumber, 2, 3}, 2, 2}, {[]float32{1, 2, notNumber, 3}, 3, notNumber},
			{[]float32{greatest, greatest}, 0.5, greatest},
			{[]float32{0, minusZero}, 0.5, 0}, {[]float32{minusZero, minusZero}, 0.5, 0}, {[]float32{5, -5}, 0.5, 0},
			{[]float32{1e20, 1}, 1, 0}, {[]float32{1, 1e20}, 1, 1e20}, {[]float32{1, 1e20, 3}, 2, 0}, {[]float32{1e20, 1, 3}, 1, 1},
		} {
			betweenIs(t, fmt.Sprint(c.values, " along the axis ", axis, " at ", c.at), lineGrid(axis, c.values...), onlyOn(axis, c.at), c.want)
		}
	}
	betweenIs(t, "a difference that overflows along X", lineGrid(0, -greatest, greatest), vec(0.5, 0, 0), notNumber)
	betweenIs(t, "a difference that overflows along Z", lineGrid(2, -greatest, greatest), vec(0, 0, 0.5), infinite)
	betweenIs(t, "a difference that overflows, at the point", lineGrid(2, -greatest, greatest), vec(0, 0, 0), notNumber)
	for corner := range 8 {
		for _, x := range []float32{infinite, -infinite} {
			g := numberedGrid(2, 2, 2)
			g.Values[corner] = x
			want := notNumber
			if corner == 7 {
				want = x
			}
			betweenIs(t, fmt.Sprint("an infinity at the corner ", corner), g, vec(0.5, 0.25, 0.75), want)
			betweenIs(t, fmt.Sprint("an infinity at the corner ", corner, ", at it"), g, vec(float32(corner&1), float32(corner>>1&1), float32(corner>>2)), want)
			betweenIs(t, fmt.Sprint("an infinity at the corner ", corner, ", beside it"), g, vec(1, 1, 0), notNumber)
		}
	}
}

// TestOrderOfAxes has values that are rounded away along X first, along Y then, and along Z last.
func TestOrderOfAxes(t *testing.T) {
	middle := vec(0.5, 0.5, 0.5)
	// Each row is the sum of a great number and a small one, which is lost but for the order that keeps it.
	for _, c := range []struct {
		what   string
		values []float32
		want   float32
	}{
		{"lost along X", []float32{1e9, 1, -1e9, 1, 0, 0, 0, 0}, 0},
		{"kept along X", []float32{1e9, -1e9, 1, 1, 0, 0, 0, 0}, 0.25},
		{"lost along Y", []float32{1e9, 1e9, 1, 1, -1e9, -1e9, 1, 1}, 0},
		{"kept along Y", []float32{1e9, 1e9, -1e9, -1e9, 1, 1, 1, 1}, 0.5},
	} {
		betweenIs(t, c.what, unitGrid(2, 2, 2, c.values...), middle, c.want)
	}
	// Between a and b is a plus a share of their difference, not a share of each of them.
	betweenIs(t, "a third between", lineGrid(0, 1, 4), vec(num(0x3eaaaaab), 0, 0), 2)
	betweenIs(t, "a part of a great difference", lineGrid(1, 1, 1e9), vec(0, num(0x30000000), 0), sum(1, product(num(0x30000000), 1e9)))
	betweenIs(t, "a difference that is lost", lineGrid(2, -1e9, 3), vec(0, 0, 1), 0)
}

// TestFarDifferences has places so far from Low that the difference, or the quotient, is not finite.
func TestFarDifferences(t *testing.T) {
	for axis := range 3 {
		g := lineGrid(axis, 3, 4, 6)
		*partOf(&g.Low, axis) = -greatest
		g.Step = 1
		betweenIs(t, "a difference that overflows", g, onlyOn(axis, greatest), 6)
		betweenIs(t, "no difference", g, onlyOn(axis, -greatest), 3)
		betweenIs(t, "a great difference", g, onlyOn(axis, 0), 6)
		*partOf(&g.Low, axis) = greatest
		betweenIs(t, "a difference that overflows below", g, onlyOn(axis, -greatest), 3)
		g = lineGrid(axis, 3, 4, 6)
		g.Step = num(1)
		betweenIs(t, "a quotient that overflows", g, onlyOn(axis, 1), 6)
		betweenIs(t, "a quotient that overflows below", g, onlyOn(axis, -1), 3)
		betweenIs(t, "the least steps", g, onlyOn(axis, num(1)), 4)
		betweenIs(t, "the least place", g, onlyOn(axis, num(2)), 6)
		g.Step = greatest
		betweenIs(t, "the greatest step", g, onlyOn(axis, greatest), 4)
		betweenIs(t, "half of the greatest step", g, onlyOn(axis, greatest/2), 3.5)
	}
}

func TestPlacesAreRefused(t *testing.T) {
	for axis := range 3 {
		for _, x := range []float32{infinite, -infinite, notNumber, num(0x7f800001)} {
			for _, g := range []impl.Grid{cornerGrid(), unitGrid(1, 1, 1, 2), numberedGrid(3, 3, 3)} {
				got, ok := impl.ValueBetween(g, onlyOn(axis, x))
				fails(t, fmt.Sprint("ValueBetween at ", x, " along ", axis), got, ok)
				slope, ok := impl.SlopeBetween(g, onlyOn(axis, x))
				fails(t, fmt.Sprint("SlopeBetween at ", x, " along ", axis), slope, ok)
			}
		}
	}
}

func TestSlopeBetween(t *testing.T) {
	plane := numberedGrid(4, 4, 4)
	for _, c := range []struct {
		what    string
		p, want impl.Vector
	}{
		{"inside", vec(1, 1, 1), vec(1, 4, 16)}, {"between", vec(1.5, 1.25, 1.75), vec(1, 4, 16)}, {"at the last but one", vec(2, 2, 2), vec(1, 4, 16)},
		{"at the first corner", vec(0, 0, 0), vec(0.5, 2, 8)}, {"at the last corner", vec(3, 3, 3), vec(0.5, 2, 8)}, {"at the border of X", vec(0, 1, 2), vec(0.5, 4, 16)},
		{"at the border of Y", vec(1, 3, 2), vec(1, 2, 16)}, {"at the border of Z", vec(1, 2, 0), vec(1, 4, 8)}, {"a little outside", vec(-0.5, 3.5, 1), vec(0.25, 1, 16)},
		{"a step outside", vec(-1, 4, -1), vec(0, 0, 0)}, {"far outside", vec(-9, 99, 999), vec(0, 0, 0)}, {"where a step changes nothing", vec(1e30, -1e30, 1e30), vec(0, 0, 0)},
		{"near the border", vec(0.5, 2.5, 0.75), vec(0.75, 3, 14)},
	} {
		slopeIs(t, c.what, plane, c.p, c.want)
	}
	half := numberedGrid(4, 4, 4)
	half.Step = 0.5
	slopeIs(t, "half a step", half, vec(0.5, 0.75, 1), vec(2, 8, 32))
	half.Low = vec(-1, 1, 2)
	slopeIs(t, "half a step from Low", half, vec(-0.5, 1.75, 3), vec(2, 8, 32))
}

func TestSlopesOfFewPoints(t *testing.T) {
	slopeIs(t, "one point", unitGrid(1, 1, 1, 5), vec(0, 0, 0), vec(0, 0, 0))
	slopeIs(t, "one infinite point", unitGrid(1, 1, 1, infinite), vec(0, 0, 0), vec(notNumber, notNumber, notNumber))
	for axis := range 3 {
		slopeIs(t, "two points", lineGrid(axis, 1, 5), onlyOn(axis, 0.5), onlyOn(axis, 2))
		slopeIs(t, "two points, at the first", lineGrid(axis, 1, 5), onlyOn(axis, 0), onlyOn(axis, 2))
		slopeIs(t, "two points, a little before", lineGrid(axis, 1, 5), onlyOn(axis, -0.5), onlyOn(axis, 1))
		slopeIs(t, "a line back", lineGrid(axis, 5, 3, -9), onlyOn(axis, 1), onlyOn(axis, -7))
		slopeIs(t, "two points, an infinite end", lineGrid(axis, 0, 0, 1, infinite), onlyOn(axis, 2), vec(notNumber, notNumber, notNumber))
	}
}

func TestSlopesOfOddSteps(t *testing.T) {
	for axis := range 3 {
		g := lineGrid(axis, 1, 5, 7)
		g.Step = greatest
		slopeIs(t, "a Step whose double is not finite", g, vec(0, 0, 0), vec(0, 0, 0))
		g = lineGrid(axis, 5, 1, 0)
		g.Step = greatest
		slopeIs(t, "such a Step, downwards", g, vec(0, 0, 0), onlyOn(axis, minusZero))
		for _, x := range []float32{greatest, -greatest} {
			got, ok := impl.SlopeBetween(g, onlyOn(axis, x))
			fails(t, fmt.Sprint("a step that leads too far from ", x, " along ", axis), got, ok)
		}
		g.Step = 1
		slopeIs(t, "the greatest place", g, onlyOn(axis, greatest), vec(0, 0, 0))
		g = lineGrid(axis, 1, 5, 7)
		g.Step = num(1)
		slopeIs(t, "the least Step", g, onlyOn(axis, num(1)), onlyOn(axis, infinite))
		g.Step = num(0x00400000)
		slopeIs(t, "a subnormal Step", g, onlyOn(axis, num(0x00400000)), onlyOn(axis, infinite))
	}
	for _, x := range []float32{1 << 24, 1 << 25, 1e20} {
		g := numberedGrid(4, 1, 1)
		g.Low.X = x - 2
		got, ok := impl.SlopeBetween(g, vec(x, 0, 0))
		want := toldSlope(g, vec(x, 0, 0))
		equal(t, "SlopeBetween succeeds", ok, true)
		sameVector(t, fmt.Sprint("steps that are rounded at ", x), got, want)
	}
}

// TestSlopesKeepOtherCoordinates has a slope that is -0 only if the coordinates that are not stepped keep their sign.
func TestSlopesKeepOtherCoordinates(t *testing.T) {
	for axis := range 3 {
		g := lineGrid(axis, 0, 1, minusZero, -1)
		p := vec(minusZero, minusZero, minusZero)
		*partOf(&p, axis) = 1
		got, ok := impl.SlopeBetween(g, p)
		equal(t, "SlopeBetween succeeds", ok, true)
		same(t, fmt.Sprint("the slope along ", axis, " at -0"), *partOf(&got, axis), minusZero)
		for other := range 3 {
			if other != axis {
				q := p
				*partOf(&q, other) = 0
				got, _ = impl.SlopeBetween(g, q)
				same(t, fmt.Sprint("the slope along ", axis, " with 0 on ", other), *partOf(&got, axis), 0)
			}
		}
	}
}
