package tests

import (
	"fmt"
	"math"
	"math/rand"
	"testing"

	"loop.example/g01193/impl"
)

func box(low, high impl.Vector) impl.Box { return impl.Box{Low: low, High: high} }

// cube is a box with the same range along each axis.
func cube(low, high float32) impl.Box { return box(vec(low, low, low), vec(high, high, high)) }

func point(x, y, z float32) impl.Box { return box(vec(x, y, z), vec(x, y, z)) }

// onAxis returns a box with the given range along one axis, and from -0 to -0 along the others.
func onAxis(axis int, low, high float32) impl.Box { return box(zeros(axis, low), zeros(axis, high)) }

func sameBox(t *testing.T, what string, got, want impl.Box) {
	t.Helper()
	sameVector(t, what+", Low", got.Low, want.Low)
	sameVector(t, what+", High", got.High, want.High)
}

// makesBox takes the two results of a call behind the ones that name it.
func makesBox(t *testing.T, what string, got impl.Box, ok bool, want impl.Box) {
	t.Helper()
	equal(t, what+" succeeds", ok, true)
	sameBox(t, what, got, want)
}

func sameBoxes(t *testing.T, what string, got, want []impl.Box) {
	t.Helper()
	equal(t, what+", length", len(got), len(want))
	for i := range min(len(got), len(want)) {
		sameBox(t, fmt.Sprint(what, ", ", i), got[i], want[i])
	}
}

// coordinate returns a pointer to a coordinate of a box, 0 to 2 for Low, and 3 to 5 for High.
func coordinate(b *impl.Box, i int) *float32 {
	return []*float32{&b.Low.X, &b.Low.Y, &b.Low.Z, &b.High.X, &b.High.Y, &b.High.Z}[i]
}

func invalidBoxes() []impl.Box {
	var list []impl.Box
	for i := range 6 {
		for _, x := range []float32{infinite, -infinite, notNumber, num(0xffc00000)} {
			b := cube(-1, 2)
			*coordinate(&b, i) = x
			list = append(list, b)
		}
	}
	for axis := range 3 {
		for _, c := range [][2]float32{{1, -1}, {num(0x3f800001), 1}, {-1, num(0xbf800001)}, {num(1), 0}, {0, num(0x80000001)}, {greatest, -greatest}} {
			list = append(list, onAxis(axis, c[0], c[1]))
		}
		list = append(list, point(notNumber, 0, 0), point(0, infinite, 0), point(0, 0, -infinite))
	}
	return append(list, cube(-infinite, infinite), cube(notNumber, notNumber), cube(1, 0))
}

func validBoxes() []impl.Box {
	list := []impl.Box{
		{}, cube(-1, 1), cube(0, minusZero), cube(minusZero, 0), cube(-greatest, greatest), cube(greatest, greatest), cube(-greatest, -greatest),
		cube(num(0x80000001), num(1)), cube(num(1), num(1)), box(vec(-3, 2, 1), vec(-2, 2, 9)),
	}
	for axis := range 3 {
		list = append(list, onAxis(axis, -1, 2), onAxis(axis, 1, num(0x3f800001)), onAxis(axis, 0, num(1)), onAxis(axis, -5, minusZero))
	}
	return list
}

func TestLimitsOfChapter4(t *testing.T) {
	equal(t, "MaxSplits", impl.MaxSplits, 6)
}

func TestValidBox(t *testing.T) {
	for _, b := range validBoxes() {
		equal(t, fmt.Sprint("ValidBox ", b), impl.ValidBox(b), true)
	}
	for _, b := range invalidBoxes() {
		equal(t, fmt.Sprint("ValidBox ", b), impl.ValidBox(b), false)
	}
}

func TestIsInBox(t *testing.T) {
	b := box(vec(-1, 2, -4), vec(1, 2, 8))
	for _, c := range []struct {
		p    impl.Vector
		want bool
	}{
		{vec(0, 2, 0), true}, {vec(-1, 2, -4), true}, {vec(1, 2, 8), true}, {vec(1, 2, -4), true}, {vec(-1, 2, 8), true}, {vec(minusZero, 2, minusZero), true},
		{vec(num(0xbf800001), 2, 0), false}, {vec(num(0x3f800001), 2, 0), false}, {vec(0, num(0x40000001), 0), false}, {vec(0, num(0x3fffffff), 0), false},
		{vec(0, 2, num(0x41000001)), false}, {vec(0, 2, num(0xc0800001)), false}, {vec(0, 0, 0), false},
		{vec(notNumber, 2, 0), false}, {vec(0, notNumber, 0), false}, {vec(0, 2, notNumber), false},
		{vec(infinite, 2, 0), false}, {vec(0, -infinite, 0), false}, {vec(0, 2, -infinite), false},
	} {
		equal(t, fmt.Sprint("IsInBox ", c.p), impl.IsInBox(b, c.p), c.want)
	}
	for _, zero := range []float32{0, minusZero} {
		for _, b := range []impl.Box{cube(0, 0), cube(minusZero, minusZero), cube(0, minusZero), cube(minusZero, 0)} {
			equal(t, fmt.Sprint(zero, " in ", b), impl.IsInBox(b, vec(zero, zero, zero)), true)
			equal(t, fmt.Sprint("above ", b), impl.IsInBox(b, vec(zero, num(1), zero)), false)
			equal(t, fmt.Sprint("below ", b), impl.IsInBox(b, vec(zero, zero, num(0x80000001))), false)
		}
	}
	for _, b := range invalidBoxes() {
		for _, p := range []impl.Vector{b.Low, b.High, {}, vec(0.5, 0.5, 0.5), toldBetween(b.Low, b.High, 0.5)} {
			equal(t, fmt.Sprint("IsInBox ", b), impl.IsInBox(b, p), false)
		}
	}
}

// points returns count points of which those behind the first are the same.
func points(count int, first, other impl.Vector) []impl.Vector {
	list := make([]impl.Vector, count)
	for i := range list {
		list[i] = other
	}
	if count > 0 {
		list[0] = first
	}
	return list
}

func TestBoxAround(t *testing.T) {
	zero, minus := impl.Vector{}, vec(minusZero, minusZero, minusZero)
	for _, c := range []struct {
		what   string
		points []impl.Vector
		want   impl.Box
	}{
		{"one", []impl.Vector{vec(1, -2, minusZero)}, point(1, -2, minusZero)},
		{"two", []impl.Vector{vec(1, -1, 0), vec(0, 0, 3)}, box(vec(0, -1, 0), vec(1, 0, 3))},
		{"two in the opposite order", []impl.Vector{vec(0, 0, 3), vec(1, -1, 0)}, box(vec(0, -1, 0), vec(1, 0, 3))},
		{"equal ones", []impl.Vector{vec(1, 2, 3), vec(1, 2, 3), vec(1, 2, 3)}, point(1, 2, 3)},
		{"three", []impl.Vector{vec(0, 5, -1), vec(2, -5, 4), vec(-3, 1, 1)}, box(vec(-3, -5, -1), vec(2, 5, 4))},
		// A zero of the other sign is neither less nor greater, so the first one stays.
		{"+0 and -0", []impl.Vector{zero, minus}, box(zero, zero)}, {"-0 and +0", []impl.Vector{minus, zero}, box(minus, minus)},
		{"-0, +0 and less", []impl.Vector{minus, zero, vec(-1, 0, 0)}, box(vec(-1, minusZero, minusZero), minus)},
		{"+0, -0 and greater", []impl.Vector{zero, minus, vec(0, 1, minusZero)}, box(zero, vec(0, 1, 0))},
		{"less, then both zeros", []impl.Vector{vec(-1, 1, -1), minus, zero}, box(vec(-1, minusZero, -1), vec(minusZero, 1, minusZero))},
		{"the greatest numbers", []impl.Vector{vec(greatest, 0, num(1)), vec(-greatest, 0, num(0x80000001))}, box(vec(-greatest, 0, num(0x80000001)), vec(greatest, 0, num(1)))},
		{"255 equal ones", points(256, vec(3, 0, -3), vec(1, 1, 1)), box(vec(1, 0, -3), vec(3, 1, 1))},
	} {
		got, ok := impl.BoxAround(c.points)
		makesBox(t, "BoxAround "+c.what, got, ok, c.want)
	}
	list := points(256, impl.Vector{}, impl.Vector{})
	list[255] = vec(-7, 7, 0)
	got, ok := impl.BoxAround(list)
	makesBox(t, "BoxAround 256 points", got, ok, box(vec(-7, 0, 0), vec(0, 7, 0)))
}

func TestBoxAroundFails(t *testing.T) {
	for _, list := range [][]impl.Vector{nil, {}, points(257, impl.Vector{}, impl.Vector{}), points(100000, vec(1, 0, 0), vec(1, 0, 0))} {
		got, ok := impl.BoxAround(list)
		fails(t, fmt.Sprint("BoxAround ", len(list), " points"), got, ok)
	}
	for _, x := range []float32{infinite, -infinite, notNumber, num(0xff800001)} {
		for axis := range 3 {
			for _, list := range [][]impl.Vector{{zeros(axis, x)}, {zeros(axis, x), {}}, {{}, zeros(axis, x)}, {{}, zeros(axis, x), {}}} {
				got, ok := impl.BoxAround(list)
				fails(t, fmt.Sprint("BoxAround ", list), got, ok)
			}
		}
	}
}

func TestGrowBox(t *testing.T) {
	b := box(vec(0, -1, 2), vec(2, 4, 4))
	for _, c := range []struct {
		b    impl.Box
		by   float32
		want impl.Box
	}{
		{b, 1, box(vec(-1, -2, 1), vec(3, 5, 5))}, {b, 0, b}, {b, -0.5, box(vec(0.5, -0.5, 2.5), vec(1.5, 3.5, 3.5))}, {b, -1, box(vec(1, 0, 3), vec(1, 3, 3))},
		{b, num(1), box(vec(num(0x80000001), -1, 2), vec(2, 4, 4))}, {b, 0x1p-25, box(vec(-0x1p-25, -1, 2), vec(2, 4, 4))}, {point(1, 1, 1), 0x1p-24, box(vec(num(0x3f7fffff), num(0x3f7fffff), num(0x3f7fffff)), vec(1, 1, 1))},
		{cube(minusZero, minusZero), 0, cube(minusZero, 0)}, {cube(minusZero, minusZero), minusZero, cube(0, minusZero)}, {cube(0, 0), minusZero, cube(0, 0)}, {cube(0, minusZero), 0, cube(0, 0)},
		{cube(0, 0), greatest, cube(-greatest, greatest)}, {cube(1, 1), greatest, cube(-greatest, greatest)}, {cube(-2, -2), 2, cube(-4, 0)},
		{cube(-greatest, greatest), -greatest, cube(0, 0)}, {cube(-greatest, greatest), 1, cube(-greatest, greatest)},
	} {
		got, ok := impl.GrowBox(c.b, c.by)
		makesBox(t, fmt.Sprint("GrowBox ", c.b, " by ", c.by), got, ok, c.want)
	}
}

func TestGrowBoxFails(t *testing.T) {
	b := box(vec(0, -1, 2), vec(2, 4, 4))
	for _, c := range []struct {
		b  impl.Box
		by float32
	}{
		{b, num(0xbf800001)}, {b, -2}, {b, -greatest}, {b, infinite}, {b, -infinite}, {b, notNumber}, {b, num(0xff800001)}, {cube(0, 0), num(0x80000001)},
		{onAxis(0, 1, 2), -0.75}, {box(vec(-9, -9, 1), vec(9, 9, 2)), -0.75}, {box(vec(-9, 1, -9), vec(9, 2, 9)), -0.75}, {box(vec(1, -9, -9), vec(2, 9, 9)), -0.75},
		{cube(-greatest, 0), 0x1p104}, {cube(0, greatest), 0x1p104}, {box(vec(0, 0, -greatest), vec(0, 0, 0)), greatest}, {box(vec(0, 0, 0), vec(0, greatest, 0)), greatest},
	} {
		got, ok := impl.GrowBox(c.b, c.by)
		fails(t, fmt.Sprint("GrowBox ", c.b, " by ", c.by), got, ok)
	}
	for _, b := range invalidBoxes() {
		for _, by := range []float32{0, 1, 8} {
			got, ok := impl.GrowBox(b, by)
			fails(t, fmt.Sprint("GrowBox ", b), got, ok)
		}
	}
}

func splitIs(t *testing.T, b impl.Box, axis int, middle float32) {
	t.Helper()
	first, second := b, b
	*coordinate(&first, 3+axis), *coordinate(&second, axis) = middle, middle
	gotFirst, gotSecond, ok := impl.SplitBox(b)
	makesBox(t, fmt.Sprint("SplitBox ", b, ", first"), gotFirst, ok, first)
	makesBox(t, fmt.Sprint("SplitBox ", b, ", second"), gotSecond, ok, second)
}

func TestSplitBox(t *testing.T) {
	splitIs(t, box(vec(0, 0, 0), vec(4, 2, 1)), 0, 2)
	splitIs(t, box(vec(0, 0, 0), vec(1, 4, 2)), 1, 2)
	splitIs(t, box(vec(0, 0, 0), vec(2, 1, 4)), 2, 2)
	splitIs(t, box(vec(0, -1, -2), vec(4, 2, 3)), 2, 0.5)
	// Of equal differences, the first one counts.
	splitIs(t, box(vec(1, 0, 0), vec(5, 4, 1)), 0, 3)
	splitIs(t, box(vec(0, 2, -2), vec(2, 6, 2)), 1, 4)
	splitIs(t, box(vec(-4, 0, 6), vec(0, 2, 10)), 0, -2)
	splitIs(t, cube(-1, 3), 0, 1)
	splitIs(t, box(vec(0, 0, 0), vec(4, num(0x40800001), 4)), 1, num(0x40000001))
	// Differences are rounded: 1 less -2 to the power of -25 is 1.
	splitIs(t, box(vec(0, -0x1p-25, 0), vec(1, 1, 1)), 0, 0.5)
	splitIs(t, box(vec(-1, 0, 0), vec(0x1p-25, 1, 0)), 0, -0.5)
	// A box of one point is two of it.
	splitIs(t, point(3, -4, 5), 0, 3)
	splitIs(t, point(greatest, -greatest, 0), 0, greatest)
	splitIs(t, cube(0, 0), 0, 0)
	splitIs(t, cube(minusZero, minusZero), 0, 0)
	splitIs(t, cube(0, minusZero), 0, 0)
	splitIs(t, cube(minusZero, 0), 0, 0)
	splitIs(t, onAxis(1, -2, 2), 1, 0)
	// The half of the least number is 0, and that of three of them is two of them.
	splitIs(t, onAxis(2, 0, num(1)), 2, 0)
	splitIs(t, onAxis(2, num(1), num(2)), 2, num(1))
	splitIs(t, onAxis(1, num(1), num(4)), 1, num(3))
	splitIs(t, onAxis(0, num(0x80000001), num(1)), 0, 0)
	// The middle is rounded to one of the ends, if they are neighbours.
	splitIs(t, onAxis(0, 1, num(0x3f800001)), 0, 1)
	splitIs(t, onAxis(0, num(0x3f800001), num(0x3f800002)), 0, num(0x3f800002))
	splitIs(t, onAxis(1, num(0xbf800001), -1), 1, -1)
	splitIs(t, cube(0, greatest), 0, greatest/2)
	// The greatest difference that is not rounded to an infinity.
	splitIs(t, box(vec(num(0xf2ffffff), 0, 0), vec(greatest, 0, 0)), 0, num(0x7efffffe))
	splitIs(t, box(vec(-0x1p126, 0, 0), vec(0x1p126, 0x1p127, 0x1p127)), 0, 0)
}

func TestSplitBoxFails(t *testing.T) {
	list := append(invalidBoxes(), cube(-greatest, greatest), cube(-0x1p127, 0x1p127), box(vec(-0x1p103, 0, 0), vec(greatest, 1, 1)))
	for axis := range 3 {
		list = append(list, onAxis(axis, -greatest, greatest), onAxis(axis, -0x1p127, 0x1p127))
	}
	for _, b := range list {
		first, second, ok := impl.SplitBox(b)
		fails(t, fmt.Sprint("SplitBox ", b, ", first"), first, ok)
		fails(t, fmt.Sprint("SplitBox ", b, ", second"), second, ok)
	}
}

func TestCutBoxes(t *testing.T) {
	zero, minus := cube(0, 0), cube(minusZero, minusZero)
	for _, c := range []struct{ a, b, want impl.Box }{
		{cube(0, 4), cube(1, 2), cube(1, 2)}, {cube(0, 2), cube(1, 4), cube(1, 2)}, {cube(1, 4), cube(0, 2), cube(1, 2)}, {cube(-1, 1), cube(-1, 1), cube(-1, 1)},
		{box(vec(0, 0, 0), vec(2, 4, 4)), box(vec(1, 1, 1), vec(9, 2, 9)), box(vec(1, 1, 1), vec(2, 2, 4))},
		// They share one point, an edge, a side.
		{cube(0, 1), cube(1, 2), cube(1, 1)}, {cube(1, 2), cube(0, 1), cube(1, 1)}, {cube(-1, 0), cube(0, 1), cube(0, 0)}, {cube(-1, minusZero), cube(0, 1), cube(0, minusZero)}, {cube(0, 1), cube(-1, minusZero), cube(0, minusZero)},
		{box(vec(0, 0, 0), vec(1, 1, 1)), box(vec(1, 1, 0), vec(2, 2, 1)), box(vec(1, 1, 0), vec(1, 1, 1))}, {cube(0, 2), box(vec(2, -1, 1), vec(3, 3, 3)), box(vec(2, 0, 1), vec(2, 2, 2))},
		{point(1, 2, 3), cube(0, 4), point(1, 2, 3)}, {cube(-greatest, greatest), cube(1, greatest), cube(1, greatest)},
		// Of both zeros, the one of the first box stays.
		{zero, minus, zero}, {minus, zero, minus}, {cube(0, 1), cube(minusZero, 2), cube(0, 1)}, {cube(minusZero, 1), cube(0, 2), cube(minusZero, 1)}, {cube(-2, minusZero), cube(-3, 0), cube(-2, minusZero)}, {cube(-2, 0), cube(-1, minusZero), cube(-1, 0)},
	} {
		got, ok := impl.CutBoxes(c.a, c.b)
		makesBox(t, fmt.Sprint("CutBoxes ", c.a, " and ", c.b), got, ok, c.want)
	}
}

func TestCutBoxesFails(t *testing.T) {
	for _, c := range []struct{ a, b impl.Box }{
		{cube(0, 1), cube(2, 3)}, {cube(0, 1), cube(num(0x3f800001), 3)}, {cube(-1, num(0x80000001)), cube(0, 1)},
		{cube(0, 2), box(vec(3, 0, 0), vec(4, 2, 2))}, {cube(0, 2), box(vec(0, 3, 0), vec(2, 4, 2))}, {cube(0, 2), box(vec(0, 0, 3), vec(2, 2, 4))}, {point(1, 1, 1), point(1, 1, 2)},
	} {
		got, ok := impl.CutBoxes(c.a, c.b)
		fails(t, fmt.Sprint("CutBoxes ", c.a, " and ", c.b), got, ok)
		got, ok = impl.CutBoxes(c.b, c.a)
		fails(t, fmt.Sprint("CutBoxes ", c.b, " and ", c.a), got, ok)
	}
	for _, b := range invalidBoxes() {
		for _, good := range []impl.Box{{}, cube(-1, 1), cube(-greatest, greatest)} {
			got, ok := impl.CutBoxes(b, good)
			fails(t, fmt.Sprint("CutBoxes ", b, " and ", good), got, ok)
			got, ok = impl.CutBoxes(good, b)
			fails(t, fmt.Sprint("CutBoxes ", good, " and ", b), got, ok)
		}
		got, ok := impl.CutBoxes(b, b)
		fails(t, fmt.Sprint("CutBoxes ", b, " with itself"), got, ok)
	}
}

// randomBox has sides of all sizes, some of which are 0.
func randomBox(r *rand.Rand, size float32) impl.Box {
	p := randomPoint(r, size)
	wide := size * float32(math.Pow(2, -float64(r.Intn(12))))
	b := impl.Box{Low: p, High: p}
	for i := 3; i < 6; i++ {
		if r.Intn(8) > 0 {
			*coordinate(&b, i) += r.Float32() * wide
		}
	}
	return b
}

// oddBox has corners with numbers of all sizes.
func oddBox(r *rand.Rand, numbers []float32) impl.Box {
	for {
		p, q := oddVector(r, numbers), oddVector(r, numbers)
		b := box(vec(min(p.X, q.X), min(p.Y, q.Y), min(p.Z, q.Z)), vec(max(p.X, q.X), max(p.Y, q.Y), max(p.Z, q.Z)))
		if r.Intn(2) == 0 {
			b.High.X = b.Low.X
		}
		if toldFinite(b.Low.X, b.Low.Y, b.Low.Z, b.High.X, b.High.Y, b.High.Z) {
			return b
		}
	}
}

// someBoxes has boxes of all sizes.
func someBoxes(r *rand.Rand, count int) []impl.Box {
	list, numbers := validBoxes(), manyNumbers(200)
	for i := range count {
		if i%2 == 0 {
			list = append(list, randomBox(r, 4))
		} else {
			list = append(list, oddBox(r, numbers))
		}
	}
	return list
}

// TestPointsOfBoxes checks that boxes that were made hold the points that they should hold, and no others.
func TestPointsOfBoxes(t *testing.T) {
	r := rand.New(rand.NewSource(41))
	boxes := someBoxes(r, 2000)
	for i, a := range boxes {
		b := boxes[r.Intn(len(boxes))]
		cut, shared := impl.CutBoxes(a, b)
		first, second, halves := impl.SplitBox(a)
		grown, grows := impl.GrowBox(a, 0.5)
		for range 10 {
			p := pointIn(r, boxes[(i+r.Intn(2))%len(boxes)])
			inA := impl.IsInBox(a, p)
			equal(t, "in both boxes", shared && impl.IsInBox(cut, p), inA && impl.IsInBox(b, p))
			if halves {
				equal(t, "in one of both halves", impl.IsInBox(first, p) || impl.IsInBox(second, p), inA)
			}
			equal(t, "in a greater box", inA && grows && !impl.IsInBox(grown, p), false)
		}
		around, ok := impl.BoxAround([]impl.Vector{toldBetween(first.Low, first.High, 0.5), a.High, a.Low})
		if halves {
			equal(t, "a box around its corners", ok && around == a, true)
		}
	}
}

// pointIn returns a point of a box, often one of a corner, or with a zero of any sign.
func pointIn(r *rand.Rand, b impl.Box) impl.Vector {
	pick := func(low, high float32) float32 {
		x := float32(float64(low) + (float64(high)-float64(low))*r.Float64())
		switch r.Intn(8) {
		case 0:
			x = low
		case 1:
			x = high
		case 2:
			x = 0
		}
		if !(low <= x && x <= high) {
			x = low
		}
		if x == 0 && r.Intn(2) == 0 {
			x = turnSign(x)
		}
		return x
	}
	return vec(pick(b.Low.X, b.High.X), pick(b.Low.Y, b.High.Y), pick(b.Low.Z, b.High.Z))
}
