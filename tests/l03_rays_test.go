package tests

import (
	"fmt"
	"math"
	"testing"

	"loop.example/g01193/impl"
)

const greatest = math.MaxFloat32

func plane(x, y, z, far float32) impl.Node { return node(impl.NodePlane, 0, 0, x, y, z, far) }

func ray(from, way impl.Vector) impl.Ray { return impl.Ray{From: from, Way: way} }

// alongX is a ray that goes along X through the origin.
func alongX(from float32) impl.Ray { return ray(vec(from, 0, 0), vec(1, 0, 0)) }

func march(near, most float32, steps int64) impl.March {
	return impl.March{Near: near, Most: most, Steps: steps}
}

func TestLimitsOfChapter3(t *testing.T) {
	equal(t, "MaxMarch", impl.MaxMarch, 64)
	equal(t, "HitMiss", impl.HitMiss, 0)
	equal(t, "HitSurface", impl.HitSurface, 1)
	equal(t, "HitGiven", impl.HitGiven, 2)
}

func TestUnitOf(t *testing.T) {
	for _, c := range []struct{ v, want impl.Vector }{
		{vec(4, 0, 0), vec(1, 0, 0)}, {vec(0, -0.25, 0), vec(0, -1, 0)}, {vec(minusZero, 0, 2), vec(minusZero, 0, 1)},
		{vec(3, 0, 4), vec(product(3, quotient(1, 5)), 0, product(4, quotient(1, 5)))},
		// The quotient is rounded before the product, which is not always the quotient of both numbers.
		{vec(41, 0, 0), vec(num(0x3f7fffff), 0, 0)},
		{impl.Vector{}, impl.Vector{}}, {vec(minusZero, minusZero, minusZero), impl.Vector{}},
		// The squares are zeros, or infinities.
		{vec(1e-30, -1e-30, 0), impl.Vector{}}, {vec(-1e20, 0, 0), impl.Vector{}}, {vec(1.5e19, 1.5e19, -1), impl.Vector{}}, {vec(greatest, 0, 0), impl.Vector{}},
		{vec(infinite, 1, 0), impl.Vector{}}, {vec(1, -infinite, 0), impl.Vector{}}, {vec(1, 0, notNumber), impl.Vector{}}, {vec(infinite, 0, notNumber), impl.Vector{}},
		// The least length that there is, of a square that is the least number.
		{vec(0, 0, num(0x1a350000)), vec(0, 0, product(num(0x1a350000), quotient(1, float32(math.Sqrt(0x1p-149)))))},
		{vec(0x1p-75, 0, 0), impl.Vector{}}, {vec(0x1p63, 0, 0), vec(1, 0, 0)}, {vec(0x1p64, 0, 0), impl.Vector{}},
	} {
		sameVector(t, fmt.Sprint("UnitOf ", c.v), impl.UnitOf(c.v), c.want)
	}
}

// TestUnitsAreLong1 checks the length and the direction.
func TestUnitsAreLong1(t *testing.T) {
	for _, v := range manyVectors(2000) {
		unit := impl.UnitOf(v)
		long := math.Sqrt(float64(v.X)*float64(v.X) + float64(v.Y)*float64(v.Y) + float64(v.Z)*float64(v.Z))
		if math.IsNaN(long) || long > 1e18 || long < 1e-18 {
			continue
		}
		off := math.Abs(float64(unit.X)-float64(v.X)/long) + math.Abs(float64(unit.Y)-float64(v.Y)/long) + math.Abs(float64(unit.Z)-float64(v.Z)/long)
		if off > 1e-6 {
			t.Errorf("UnitOf %v is %v", v, unit)
		}
	}
}

func TestValidRay(t *testing.T) {
	for _, c := range []struct {
		r    impl.Ray
		want bool
	}{
		{alongX(-4), true}, {impl.Ray{Way: vec(0, 0, -3)}, true}, {ray(vec(minusZero, minusZero, 0), vec(minusZero, -1, 0)), true},
		{ray(vec(greatest, -greatest, num(1)), vec(1e-20, 0, 0)), true}, {ray(impl.Vector{}, vec(1e19, 0, num(1))), true},
		{impl.Ray{}, false}, {alongX(infinite), false}, {ray(vec(0, -infinite, 0), vec(1, 0, 0)), false}, {ray(vec(0, 0, notNumber), vec(1, 0, 0)), false},
		{ray(vec(1, 2, 3), vec(minusZero, 0, 0)), false}, {ray(vec(1, 2, 3), vec(1e-30, 0, 0)), false}, {ray(vec(1, 2, 3), vec(1e20, 1, 1)), false},
		{ray(vec(1, 2, 3), vec(infinite, 0, 0)), false}, {ray(vec(1, 2, 3), vec(1, notNumber, 0)), false},
	} {
		equal(t, fmt.Sprint("ValidRay ", c.r), impl.ValidRay(c.r), c.want)
	}
}

func TestValidMarch(t *testing.T) {
	for _, c := range []struct {
		m    impl.March
		want bool
	}{
		{march(0.125, 16, 8), true}, {march(num(1), 0, 1), true}, {march(greatest, greatest, 64), true}, {march(1, minusZero, 64), true}, {march(1, num(1), 1), true},
		{impl.March{}, false}, {march(0, 1, 1), false}, {march(minusZero, 1, 1), false}, {march(-1, 1, 1), false}, {march(num(0x80000001), 1, 1), false},
		{march(infinite, 1, 1), false}, {march(-infinite, 1, 1), false}, {march(notNumber, 1, 1), false},
		{march(1, -1, 1), false}, {march(1, num(0x80000001), 1), false}, {march(1, infinite, 1), false}, {march(1, -infinite, 1), false}, {march(1, notNumber, 1), false},
		{march(1, 1, 0), false}, {march(1, 1, -1), false}, {march(1, 1, 65), false}, {march(1, 1, 1<<32+1), false}, {march(1, 1, math.MinInt64), false}, {march(1, 1, math.MaxInt64), false},
	} {
		equal(t, fmt.Sprint("ValidMarch ", c.m), impl.ValidMarch(c.m), c.want)
	}
}

func TestPlaceOn(t *testing.T) {
	for _, c := range []struct {
		r    impl.Ray
		far  float32
		want impl.Vector
	}{
		{alongX(-4), 2, vec(-2, 0, 0)}, {ray(vec(1, 2, 3), vec(0, 0, 2)), 5, vec(1, 2, 8)}, {ray(vec(1, 2, 3), vec(0, -0.5, 0)), 5, vec(1, -3, 3)},
		{alongX(-4), -3, vec(-7, 0, 0)}, {ray(vec(1, 0, 0), vec(2, 0, 0)), infinite, vec(infinite, notNumber, notNumber)},
		{alongX(1), -infinite, vec(-infinite, notNumber, notNumber)}, {alongX(1), notNumber, vec(notNumber, notNumber, notNumber)},
		{alongX(greatest), greatest, vec(infinite, 0, 0)},
		// A zero is added also where nothing changes, so -0 stays only where the product has its sign.
		{ray(vec(minusZero, minusZero, minusZero), vec(1, minusZero, 0)), 0, vec(0, minusZero, 0)},
		{ray(vec(minusZero, minusZero, minusZero), vec(-1, 0, minusZero)), 0, vec(minusZero, 0, minusZero)},
		{ray(vec(minusZero, minusZero, 0), vec(1, 0, 0)), minusZero, vec(minusZero, minusZero, 0)},
	} {
		got, ok := impl.PlaceOn(c.r, c.far)
		equal(t, "PlaceOn succeeds", ok, true)
		sameVector(t, fmt.Sprint("PlaceOn ", c.r, " at ", c.far), got, c.want)
	}
	for _, r := range invalidRays() {
		got, ok := impl.PlaceOn(r, 1)
		fails(t, fmt.Sprint("PlaceOn ", r), got, ok)
	}
}

func invalidRays() []impl.Ray {
	return []impl.Ray{
		{}, {From: vec(-4, 0, 0)}, ray(vec(-4, 0, 0), vec(1e-30, 0, 0)), ray(vec(-4, 0, 0), vec(1e20, 0, 0)), ray(vec(-4, 0, 0), vec(infinite, 0, 0)),
		ray(vec(-4, 0, 0), vec(notNumber, 0, 0)), ray(vec(-4, 0, 0), vec(minusZero, minusZero, 0)), alongX(infinite), alongX(notNumber), ray(vec(-4, -infinite, 0), vec(1, 0, 0)),
		ray(vec(-4, 0, infinite), vec(1, 0, 0)),
	}
}

func invalidMarches() []impl.March {
	return []impl.March{
		{}, march(0, 16, 8), march(minusZero, 16, 8), march(-1, 16, 8), march(infinite, 16, 8), march(notNumber, 16, 8),
		march(0.125, -1, 8), march(0.125, infinite, 8), march(0.125, notNumber, 8), march(0.125, -infinite, 8),
		march(0.125, 16, 0), march(0.125, 16, 65), march(0.125, 16, -1), march(0.125, 16, math.MinInt64), march(0.125, 16, math.MaxInt64),
	}
}

// steepUnion has a slope of 2 to the power of 63, though the second one of its planes, which is flat, is nearer.
func steepUnion() impl.Shape {
	return shape(plane(0, 0x1p63, 0, -0x1p90), plane(0x1p-100, 0, 0, 0), node(impl.NodeUnion, 0, 1))
}

// noSlope has a factor that is not a number, as 1 / u is an infinity, and the plane has no normal.
func noSlope(far float32) impl.Shape {
	return shape(plane(0, 0, 0, far), node(impl.NodeStretch, 0, 0, num(1), 1, 1))
}

func TestSafeStep(t *testing.T) {
	stretched := shape(ball(1), node(impl.NodeStretch, 0, 0, 2, 0.25, 1))
	for _, c := range []struct {
		s    impl.Shape
		p    impl.Vector
		want float32
	}{
		{shape(ball(1)), vec(3, 0, 0), 2}, {shape(ball(1)), vec(0, 0, 0), -1}, {shape(ball(1)), vec(0, 1, 0), 0},
		{shape(plane(0, 2, 0, 1)), vec(7, 3, 9), 2.5}, {shape(plane(0, 2, 0, 1)), vec(0, -3, 0), -3.5}, {stretched, vec(0, 1, 0), 0.75}, {stretched, vec(4, 0, 0), 0.25},
		// A slope that is less than 1 is 1.
		{shape(plane(0, 0.5, 0, 0)), vec(0, 3, 0), 1.5}, {shape(plane(0, num(0x3f7fffff), 0, -1)), vec(0, 0, 0), 1}, {shape(plane(0, 0, 0, -3)), vec(1, 2, 3), 3},
		{shape(plane(0, num(0x3f800001), 0, -1)), vec(0, 0, 0), num(0x3f7ffffe)},
		{shape(ball(1), node(impl.NodeStretch, 0, 0, 2, 4, 8)), vec(16, 0, 0), 7}, {noSlope(-2), vec(0, 1, 2), 2}, {noSlope(2), vec(0, 1, 2), -2},
		// A slope that is an infinity.
		{shape(plane(1e20, 0, 0, 0)), vec(1, 0, 0), 0}, {shape(plane(1e20, 0, 0, 0)), vec(-1, 0, 0), minusZero}, {shape(plane(1e20, 0, 0, 0)), vec(1e19, 0, 0), notNumber},
		{steepUnion(), vec(1, 0, 0), 0}, {shape(ball(1)), vec(infinite, 0, 0), infinite}, {shape(ball(1)), vec(notNumber, 0, 0), notNumber},
		{shape(plane(1, 0, 0, 0)), vec(-infinite, 0, 0), -infinite},
	} {
		got, ok := impl.SafeStep(c.s, c.p)
		succeeds(t, fmt.Sprint("SafeStep of ", c.s, " at ", c.p), got, ok, c.want)
	}
	for what, s := range invalidShapes() {
		got, ok := impl.SafeStep(s, vec(3, 0, 0))
		fails(t, "SafeStep of "+what, got, ok)
	}
}

// hitIs marches and compares.
func hitIs(t *testing.T, what string, s impl.Shape, r impl.Ray, m impl.March, kind, steps int64, far float32, place impl.Vector) {
	t.Helper()
	got, ok := impl.MarchRay(s, r, m)
	equal(t, what+" succeeds", ok, true)
	sameHit(t, what, got, impl.Hit{Kind: kind, Steps: steps, Far: far, Place: place})
}

func TestMarchesFromOutside(t *testing.T) {
	s, m := shape(ball(1)), march(0.125, 16, 8)
	hitIs(t, "towards the ball", s, alongX(-4), m, impl.HitSurface, 2, 3, vec(-1, 0, 0))
	hitIs(t, "away from the ball", s, ray(vec(-4, 0, 0), vec(-2, 0, 0)), m, impl.HitMiss, 3, 21, vec(-25, 0, 0))
	hitIs(t, "in the least steps", s, alongX(-4), march(0.125, 16, 2), impl.HitSurface, 2, 3, vec(-1, 0, 0))
	hitIs(t, "one step before the surface", s, alongX(-4), march(0.125, 16, 1), impl.HitGiven, 1, 3, vec(-1, 0, 0))
	hitIs(t, "to a miss in the last step", s, ray(vec(-4, 0, 0), vec(-2, 0, 0)), march(0.125, 16, 3), impl.HitMiss, 3, 21, vec(-25, 0, 0))
	hitIs(t, "one step before a miss", s, ray(vec(-4, 0, 0), vec(-2, 0, 0)), march(0.125, 16, 2), impl.HitGiven, 2, 9, vec(-13, 0, 0))
	// A distance of 2 Y, with the slope 2, is a way of Y.
	hitIs(t, "towards a steep plane", shape(plane(0, 2, 0, 0)), ray(vec(0, 4, 0), vec(0, -1, 0)), m, impl.HitSurface, 2, 4, vec(0, 0, 0))
	hitIs(t, "towards a flat plane", shape(plane(0, 0.5, 0, 0)), ray(vec(0, 4, 0), vec(0, -1, 0)), march(0.3, 16, 8), impl.HitSurface, 4, 3.5, vec(0, 0.5, 0))
	hitIs(t, "without a slope", noSlope(-2), ray(vec(0, 0, 0), vec(0, 1, 0)), march(1, 5, 8), impl.HitMiss, 3, 6, vec(0, 6, 0))
}

func TestMarchesFromInside(t *testing.T) {
	s, m := shape(ball(1)), march(0.125, 16, 8)
	for _, steps := range []int64{1, 2, 64} {
		for _, most := range []float32{0, minusZero, 16} {
			m := march(0.125, most, steps)
			hitIs(t, "from the middle", s, alongX(0), m, impl.HitSurface, 1, 0, vec(0, 0, 0))
			hitIs(t, "out of the ball", s, alongX(0.5), m, impl.HitSurface, 1, 0, vec(0.5, 0, 0))
			hitIs(t, "through the ball", s, alongX(-0.5), m, impl.HitSurface, 1, 0, vec(-0.5, 0, 0))
			hitIs(t, "from the surface out", s, alongX(1), m, impl.HitSurface, 1, 0, vec(1, 0, 0))
			hitIs(t, "from the surface in", s, alongX(-1), m, impl.HitSurface, 1, 0, vec(-1, 0, 0))
			hitIs(t, "from near the surface out", s, alongX(1.0625), m, impl.HitSurface, 1, 0, vec(1.0625, 0, 0))
		}
	}
	hitIs(t, "from outside out", s, alongX(1.5), m, impl.HitMiss, 6, 31.5, vec(33, 0, 0))
	hitIs(t, "from a distance of -infinity", shape(plane(1e20, 0, 0, 0)), alongX(-1e19), m, impl.HitSurface, 1, 0, vec(-1e19, 0, 0))
	// The place of a hit is computed also where far is +0.
	hitIs(t, "from zeros", s, ray(vec(minusZero, minusZero, minusZero), vec(-1, 1, minusZero)), m, impl.HitSurface, 1, 0, vec(minusZero, 0, minusZero))
	hitIs(t, "from zeros of both signs", s, ray(vec(minusZero, 0, minusZero), vec(minusZero, minusZero, 3)), m, impl.HitSurface, 1, 0, vec(minusZero, 0, 0))
}

func TestMarchesAtNear(t *testing.T) {
	s := shape(ball(1))
	hitIs(t, "exactly Near", s, alongX(-1.125), march(0.125, 16, 8), impl.HitSurface, 2, 0.125, vec(-1, 0, 0))
	hitIs(t, "exactly Near in the last step", s, alongX(-1.125), march(0.125, 16, 1), impl.HitGiven, 1, 0.125, vec(-1, 0, 0))
	hitIs(t, "less than Near", s, alongX(-1.125), march(num(0x3e000001), 16, 8), impl.HitSurface, 1, 0, vec(-1.125, 0, 0))
	hitIs(t, "greater than Near", s, alongX(-1.125), march(num(0x3dffffff), 16, 8), impl.HitSurface, 2, 0.125, vec(-1, 0, 0))
	// Near is held against the distance, not against the step.
	steep := shape(plane(0, 4, 0, 0))
	hitIs(t, "exactly Near at a slope", steep, ray(vec(0, 1, 0), vec(0, 1, 0)), march(4, 16, 1), impl.HitGiven, 1, 1, vec(0, 2, 0))
	hitIs(t, "less than Near at a slope", steep, ray(vec(0, 1, 0), vec(0, 1, 0)), march(5, 16, 1), impl.HitSurface, 1, 0, vec(0, 1, 0))
	hitIs(t, "the greatest Near", s, alongX(1e18), march(greatest, 0, 1), impl.HitSurface, 1, 0, vec(1e18, 0, 0))
	hitIs(t, "the least Near", s, alongX(-4), march(num(1), 16, 8), impl.HitSurface, 2, 3, vec(-1, 0, 0))
}

func TestMarchesAtMost(t *testing.T) {
	s := shape(ball(1))
	hitIs(t, "exactly Most", s, alongX(-4), march(0.125, 3, 8), impl.HitSurface, 2, 3, vec(-1, 0, 0))
	hitIs(t, "exactly Most in the last step", s, alongX(-4), march(0.125, 3, 1), impl.HitGiven, 1, 3, vec(-1, 0, 0))
	hitIs(t, "more than Most", s, alongX(-4), march(0.125, num(0x403fffff), 8), impl.HitMiss, 1, 3, vec(-1, 0, 0))
	hitIs(t, "more than Most in the last step", s, alongX(-4), march(0.125, num(0x403fffff), 1), impl.HitMiss, 1, 3, vec(-1, 0, 0))
	hitIs(t, "a Most of 0", s, alongX(-4), march(0.125, 0, 8), impl.HitMiss, 1, 3, vec(-1, 0, 0))
	hitIs(t, "a Most of -0", s, alongX(-4), march(0.125, minusZero, 8), impl.HitMiss, 1, 3, vec(-1, 0, 0))
	hitIs(t, "a Most of 0 and a step of 0", shape(plane(1e20, 0, 0, 0)), alongX(1), march(0.125, 0, 8), impl.HitGiven, 8, 0, vec(1, 0, 0))
	hitIs(t, "a Most of -0 and a step of 0", shape(plane(1e20, 0, 0, 0)), alongX(1), march(0.125, minusZero, 8), impl.HitGiven, 8, 0, vec(1, 0, 0))
}

// hall has a floor that is 1 below the X axis, and a wall at 63 across it.
func hall() impl.Shape {
	return shape(plane(0, 1, 0, -1), plane(-1, 0, 0, -63), node(impl.NodeUnion, 0, 1))
}

func TestMarchesOfManySteps(t *testing.T) {
	floor := shape(plane(0, 1, 0, -1))
	hitIs(t, "along the floor", floor, alongX(0), march(0.5, 64, 64), impl.HitGiven, 64, 64, vec(64, 0, 0))
	hitIs(t, "a miss in step 64", floor, alongX(0), march(0.5, 63, 64), impl.HitMiss, 64, 64, vec(64, 0, 0))
	hitIs(t, "one step before it", floor, alongX(0), march(0.5, 63, 63), impl.HitGiven, 63, 63, vec(63, 0, 0))
	hitIs(t, "a hit in step 64", hall(), alongX(0), march(0.5, 64, 64), impl.HitSurface, 64, 63, vec(63, 0, 0))
	hitIs(t, "one step before the wall", hall(), alongX(0), march(0.5, 64, 63), impl.HitGiven, 63, 63, vec(63, 0, 0))
	hitIs(t, "a wall at Most", hall(), alongX(0), march(0.5, 63, 64), impl.HitSurface, 64, 63, vec(63, 0, 0))
}

func TestStepsOf0(t *testing.T) {
	infiniteSlope := shape(plane(1e20, 0, 0, 0))
	for _, steps := range []int64{1, 2, 64} {
		hitIs(t, "a slope that is an infinity", infiniteSlope, alongX(1), march(0.125, 16, steps), impl.HitGiven, steps, 0, vec(1, 0, 0))
		hitIs(t, "a step that is rounded to 0", steepUnion(), alongX(1), march(0x1p-120, 16, steps), impl.HitGiven, steps, 0, vec(1, 0, 0))
		// The distance is the greater one of what is left to 2 to the power of 25 and of 1, which is too little to
		// be added there.
		s := shape(plane(-1, 0, 0, -0x1p25), plane(0, 1, 0, -1), node(impl.NodeCut, 0, 1))
		hitIs(t, "a step that changes nothing", s, alongX(0), march(0.5, 0x1p26, steps), impl.HitGiven, steps, 0x1p25, vec(0x1p25, 0, 0))
	}
	hitIs(t, "a slope that is an infinity, inside", infiniteSlope, alongX(-1), march(0.125, 16, 8), impl.HitSurface, 1, 0, vec(-1, 0, 0))
}

func TestFarOfOddNumbers(t *testing.T) {
	m := march(0.125, greatest, 8)
	hitIs(t, "a distance that is an infinity", shape(ball(1)), alongX(1e20), m, impl.HitMiss, 1, infinite, vec(infinite, notNumber, notNumber))
	// The second distance is an infinity, and the sum of two finite ones can be one.
	hitIs(t, "a later distance that is one", shape(plane(1, 0, 0, -3e38)), alongX(0), m, impl.HitMiss, 2, infinite, vec(infinite, notNumber, notNumber))
	hitIs(t, "a sum that is an infinity", shape(plane(0, 0, 0, -3e38)), alongX(0), m, impl.HitMiss, 2, infinite, vec(infinite, notNumber, notNumber))
	hitIs(t, "one step before it", shape(plane(0, 0, 0, -3e38)), alongX(0), march(0.125, greatest, 1), impl.HitGiven, 1, 3e38, vec(3e38, 0, 0))
	hitIs(t, "exactly the greatest Most", shape(plane(0, 0, 0, -greatest)), alongX(0), march(0.125, greatest, 1), impl.HitGiven, 1, greatest, vec(greatest, 0, 0))
	odd := vec(notNumber, notNumber, notNumber)
	hitIs(t, "a distance that is a not-a-number", shape(plane(3e38, 3e38, 0, 0)), ray(vec(2, -2, 0), vec(1, 0, 0)), m, impl.HitMiss, 1, notNumber, odd)
	hitIs(t, "an infinity divided by one", shape(plane(1e20, 0, 0, 0)), alongX(1e19), m, impl.HitMiss, 1, notNumber, odd)
	hitIs(t, "an infinity divided by one, and a Most of 0", shape(plane(1e20, 0, 0, 0)), alongX(1e19), march(0.125, 0, 1), impl.HitMiss, 1, notNumber, odd)
}

func TestMarchRayFails(t *testing.T) {
	s, r, m := shape(ball(1)), alongX(-4), march(0.125, 16, 8)
	for what, s := range invalidShapes() {
		got, ok := impl.MarchRay(s, r, m)
		fails(t, "MarchRay at "+what, got, ok)
	}
	for _, r := range invalidRays() {
		got, ok := impl.MarchRay(s, r, m)
		fails(t, fmt.Sprint("MarchRay of ", r), got, ok)
	}
	for _, m := range invalidMarches() {
		got, ok := impl.MarchRay(s, r, m)
		fails(t, fmt.Sprint("MarchRay by ", m), got, ok)
	}
}
