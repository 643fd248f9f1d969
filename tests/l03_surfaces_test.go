package tests

import (
	"fmt"
	"math"
	"math/rand"
	"testing"

	"loop.example/g01193/impl"
)

// notSteps are no steps, as they are not finite or not greater than 0.
func notSteps() []float32 {
	return []float32{0, minusZero, -1, num(0x80000001), -greatest, infinite, -infinite, notNumber, num(0xff800001)}
}

func TestNormalAt(t *testing.T) {
	box := shape(node(impl.NodeBox, 0, 0, 1, 1, 1))
	for _, c := range []struct {
		what string
		s    impl.Shape
		p    impl.Vector
		step float32
		want impl.Vector
	}{
		{"a ball", shape(ball(1)), vec(2, 0, 0), 1, vec(1, 0, 0)}, {"a ball below", shape(ball(1)), vec(0, -2, 0), 0.25, vec(0, -1, 0)},
		{"a ball inside", shape(ball(1)), vec(0, 0, 0.5), 0.25, vec(0, 0, 1)},
		{"a steep plane", shape(plane(0, 0, -4, 1)), vec(3, 4, 5), 0.5, vec(0, 0, -1)}, {"a box", box, vec(0.25, 3, -0.5), 0.25, vec(0, 1, 0)},
		// A step that is so great that it leads to both sides of the box gives nothing.
		{"a box from one side to the other", box, vec(0, 0, 0), 3, vec(0, 0, 0)}, {"the middle of a ball", shape(ball(1)), vec(0, 0, 0), 1, vec(0, 0, 0)},
		{"the greatest step", shape(ball(1)), vec(0, 0, 0), greatest, vec(0, 0, 0)}, {"a step that changes nothing", shape(ball(1)), vec(1e18, 0, 0), 1, vec(0, 0, 0)},
		{"the least step", shape(plane(0x1p100, 0, 0, 0)), vec(0, 0, 0), num(1), vec(1, 0, 0)},
		{"a not-a-number", shape(ball(1)), vec(notNumber, 0, 0), 1, vec(0, 0, 0)}, {"infinities", shape(ball(1)), vec(-infinite, 0, 0), 1, vec(0, 0, 0)},
		{"differences that are infinities", shape(plane(3e38, 0, 0, 0)), vec(0, 0, 0), 1, vec(0, 0, 0)},
		// One distance is not a number, so the length is none, though both other differences are.
		{"a part that is not a number", shape(plane(1e38, 1, 1, 0)), vec(8, 0, 0), 1, vec(0, 0, 0)},
	} {
		got, ok := impl.NormalAt(c.s, c.p, c.step)
		equal(t, "NormalAt of "+c.what+" succeeds", ok, true)
		sameVector(t, "NormalAt of "+c.what, got, c.want)
	}
}

// TestNormalsAreThoseOfDifferences compares with the directions that balls and planes have.
func TestNormalsAreThoseOfDifferences(t *testing.T) {
	r := rand.New(rand.NewSource(23))
	for range 2000 {
		p, n := randomPoint(r, 3), randomPoint(r, 3)
		if impl.LongOf(p) < 0.5 || impl.LongOf(n) < 0.5 {
			continue
		}
		got, ok := impl.NormalAt(shape(ball(1)), p, 1.0/64)
		equal(t, "NormalAt of a ball succeeds", ok, true)
		if impl.LongOf(impl.LessVectors(got, impl.UnitOf(p))) > 1e-3 {
			t.Errorf("the normal of a ball at %v is %v", p, got)
		}
		got, ok = impl.NormalAt(shape(plane(n.X, n.Y, n.Z, 0.5)), p, 1.0/64)
		equal(t, "NormalAt of a plane succeeds", ok, true)
		if impl.LongOf(impl.LessVectors(got, impl.UnitOf(n))) > 1e-3 {
			t.Errorf("the normal of a plane along %v is %v", n, got)
		}
	}
}

func TestNormalAtFails(t *testing.T) {
	for what, s := range invalidShapes() {
		got, ok := impl.NormalAt(s, vec(2, 0, 0), 1)
		fails(t, "NormalAt of "+what, got, ok)
	}
	for _, step := range notSteps() {
		got, ok := impl.NormalAt(shape(ball(1)), vec(2, 0, 0), step)
		fails(t, fmt.Sprint("NormalAt with the step ", step), got, ok)
	}
}

func shadowIs(t *testing.T, what string, s impl.Shape, p, normal, light impl.Vector, m impl.March, want bool) {
	t.Helper()
	got, ok := impl.InShadow(s, p, normal, light, m)
	equal(t, what+" succeeds", ok, true)
	equal(t, what, got, want)
}

func TestInShadow(t *testing.T) {
	s, m, up := shape(ball(1)), march(0.0625, 32, 32), vec(0, 1, 0)
	p := vec(0, -3, 0)
	shadowIs(t, "behind the ball", s, p, up, vec(0, 4, 0), m, true)
	shadowIs(t, "away from the ball", s, p, up, vec(0, -8, 0), m, false)
	shadowIs(t, "beside the ball", s, p, up, vec(8, -3, 0), m, false)
	shadowIs(t, "a light in the ball", s, p, up, vec(0, 0, 0), m, true)
	// The ray begins at -2.875, and ends at the light, if this is nearer than Most.
	shadowIs(t, "a light before the ball", s, p, up, vec(0, -1.5, 0), m, false)
	shadowIs(t, "a light at the ball", s, p, up, vec(0, -1, 0), m, true)
	shadowIs(t, "a light that is hardly before the ball", s, p, up, vec(0, num(0xbf800002), 0), m, false)
	shadowIs(t, "a light that is farther than Most", s, p, up, vec(0, 4, 0), march(0.0625, 1, 32), false)
	shadowIs(t, "a ball at Most", s, p, up, vec(0, 4, 0), march(0.0625, 1.875, 32), true)
	shadowIs(t, "a ball that is farther than Most", s, p, up, vec(0, 4, 0), march(0.0625, num(0x3fefffff), 32), false)
	shadowIs(t, "a Most of 0", s, p, up, vec(0, 4, 0), march(0.0625, 0, 32), false)
	shadowIs(t, "one step", s, p, up, vec(0, 4, 0), march(0.0625, 32, 1), false)
	shadowIs(t, "two steps", s, p, up, vec(0, 4, 0), march(0.0625, 32, 2), true)
	// The normal leads out of what the point is at, by twice Near times it.
	top := vec(0, 1, 0)
	shadowIs(t, "on the ball", s, top, up, vec(0, 4, 0), m, false)
	shadowIs(t, "on the ball with a normal of 0", s, top, impl.Vector{}, vec(0, 4, 0), m, true)
	shadowIs(t, "on the ball with a normal of a half", s, top, vec(0, 0.5, 0), vec(0, 4, 0), m, false)
	shadowIs(t, "on the ball with a normal of less than a half", s, top, vec(0, 0.375, 0), vec(0, 4, 0), m, true)
	shadowIs(t, "on the ball with a normal inwards", s, top, vec(0, -1, 0), vec(0, 4, 0), m, true)
	shadowIs(t, "in the ball", s, vec(0, 0, 0), up, vec(0, 4, 0), march(0.0625, 0, 1), true)
	shadowIs(t, "a long normal", s, top, vec(0, 32, 0), vec(0, -8, 0), m, true)
	shadowIs(t, "a long normal beyond the light", s, top, vec(0, 32, 0), vec(0, 4, 0), m, false)
}

func TestInShadowFails(t *testing.T) {
	s, m, up := shape(ball(1)), march(0.0625, 32, 32), vec(0, 1, 0)
	p, light := vec(0, -3, 0), vec(0, 4, 0)
	for what, s := range invalidShapes() {
		got, ok := impl.InShadow(s, p, up, light, m)
		fails(t, "InShadow of "+what, got, ok)
	}
	for _, m := range invalidMarches() {
		got, ok := impl.InShadow(s, p, up, light, m)
		fails(t, fmt.Sprint("InShadow by ", m), got, ok)
	}
	for _, c := range []struct {
		what             string
		p, normal, light impl.Vector
		near             float32
	}{
		{"a light where the ray begins", p, up, vec(0, -2.875, 0), 0.0625}, {"a light that is very near there", vec(1, 0, 0), impl.Vector{}, vec(1, 1e-30, 0), 0.0625},
		{"a light that is very far", p, up, vec(1e20, 0, 0), 0.0625}, {"a light at infinity", p, up, vec(0, infinite, 0), 0.0625}, {"no light", p, up, vec(0, 0, notNumber), 0.0625},
		{"a point at infinity", vec(infinite, 0, 0), up, light, 0.0625}, {"no point", vec(0, notNumber, 0), up, light, 0.0625},
		{"no normal", p, vec(notNumber, 0, 0), light, 0.0625}, {"a normal of infinity", p, vec(0, infinite, 0), light, 0.0625},
		{"twice Near that is an infinity", p, up, light, greatest}, {"twice Near that is one, in all parts", p, vec(1, 1, 1), light, greatest},
		{"a point that is led to infinity", vec(0, greatest, 0), vec(0, greatest, 0), light, 1},
	} {
		got, ok := impl.InShadow(s, c.p, c.normal, c.light, march(c.near, 32, 32))
		fails(t, "InShadow with "+c.what, got, ok)
	}
}

func ambientIs(t *testing.T, what string, s impl.Shape, p, normal impl.Vector, step float32, count int64, want float32) {
	t.Helper()
	got, ok := impl.AmbientAt(s, p, normal, step, count)
	succeeds(t, what, got, ok, want)
}

func TestAmbientAt(t *testing.T) {
	up, zero := vec(0, 1, 0), impl.Vector{}
	floor := shape(plane(0, 1, 0, 0))
	for _, count := range []int64{1, 2, 7, 8} {
		ambientIs(t, "an open floor", floor, zero, up, 0.5, count, 1)
		ambientIs(t, "in a ball", shape(ball(4)), zero, up, 0.25, count, 0)
		ambientIs(t, "terms of 0.5", shape(plane(0, 0.5, 0, 0)), zero, up, 0.25, count, 0.5)
		ambientIs(t, "terms below 0", shape(plane(0, 1, 0, -1)), zero, up, 0.25, count, 1)
		ambientIs(t, "terms above 1", shape(plane(0, 1, 0, 3)), zero, up, 0.25, count, 0)
		ambientIs(t, "terms that are exactly 1", floor, zero, zero, 0.25, count, 0)
		ambientIs(t, "terms that are not-a-numbers", floor, zero, vec(0, notNumber, 0), 0.25, count, 1)
		ambientIs(t, "a point that is none", floor, vec(0, notNumber, 0), up, 0.25, count, 1)
		ambientIs(t, "distances of infinity", floor, vec(0, infinite, 0), up, 0.25, count, 1)
		ambientIs(t, "distances of -infinity", floor, vec(0, -infinite, 0), up, 0.25, count, 0)
		ambientIs(t, "the greatest step", shape(ball(1)), zero, zero, greatest, count, difference(1, quotient(1, float32(count))))
	}
	// The distances are 0.25 all along, so the terms are (f - 0.25) / f.
	beside := shape(plane(1, 0, 0, -0.25))
	ambientIs(t, "one term of 0", beside, zero, up, 0.25, 1, 1)
	ambientIs(t, "terms of 0 and 0.5", beside, zero, up, 0.25, 2, 0.75)
	third := quotient(0.5, 0.75)
	ambientIs(t, "terms of 0, 0.5 and 2/3", beside, zero, up, 0.25, 3, difference(1, quotient(sum(0.5, third), 3)))
	// Only the terms that are out of 0 to 1 are changed, each on its own: they would be -3 and 1.5.
	ambientIs(t, "a term below 0 and one above 1", shape(plane(0, -5, 0, -4.5)), zero, up, 0.5, 2, 0.5)
	ambientIs(t, "a normal that is not of the length 1", shape(plane(0, 1, 0, 0)), zero, vec(0, 0.5, 0), 1, 2, 0.5)
	ambientIs(t, "the least step", shape(ball(1)), zero, up, num(1), 8, 0)
	// For a step of the half of the greatest number, f is an infinity from the third one on, and its term is none.
	ambientIs(t, "terms of infinities", shape(ball(1)), zero, zero, 0x1p127, 4, 0.75)
	ambientIs(t, "terms of infinities along a normal", floor, zero, up, 0x1p127, 8, 1)
}

func TestAmbientAtFails(t *testing.T) {
	s, up := shape(ball(1)), vec(0, 1, 0)
	for what, s := range invalidShapes() {
		got, ok := impl.AmbientAt(s, impl.Vector{}, up, 0.25, 2)
		fails(t, "AmbientAt of "+what, got, ok)
	}
	for _, step := range notSteps() {
		got, ok := impl.AmbientAt(s, impl.Vector{}, up, step, 2)
		fails(t, fmt.Sprint("AmbientAt with the step ", step), got, ok)
	}
	for _, count := range []int64{0, -1, 9, 100, 1 << 32, math.MinInt64, math.MaxInt64} {
		got, ok := impl.AmbientAt(s, impl.Vector{}, up, 0.25, count)
		fails(t, fmt.Sprint("AmbientAt with the count ", count), got, ok)
	}
}
