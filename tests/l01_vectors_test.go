package tests

import (
	"math"
	"testing"

	"loop.example/g01193/impl"
)

func vec(x, y, z float32) impl.Vector { return impl.Vector{X: x, Y: y, Z: z} }

func manyVectors(count int) []impl.Vector {
	list := manyNumbers(count)
	vectors := make([]impl.Vector, len(list))
	for i, x := range list {
		vectors[i] = vec(x, list[(i*5+1)%len(list)], list[(i*3+2)%len(list)])
	}
	return vectors
}

// product, sum and difference go through 64-bit numbers, which keeps each rounding on its own.
func product(a, b float32) float32    { return float32(float64(a) * float64(b)) }
func sum(a, b float32) float32        { return float32(float64(a) + float64(b)) }
func difference(a, b float32) float32 { return float32(float64(a) - float64(b)) }

func TestVectorParts(t *testing.T) {
	a, b := vec(3, 4, minusZero), vec(1, -4, minusZero)
	sameVector(t, "AddVectors", impl.AddVectors(a, b), vec(4, 0, minusZero))
	sameVector(t, "LessVectors", impl.LessVectors(a, b), vec(2, 8, 0))
	sameVector(t, "ScaleVector", impl.ScaleVector(a, -2), vec(-6, -8, 0))
	sameVector(t, "ScaleVector by infinity", impl.ScaleVector(vec(0, 1, -1), infinite), vec(notNumber, infinite, -infinite))
	sameVector(t, "LessVectors of infinities", impl.LessVectors(vec(infinite, 1, notNumber), vec(infinite, infinite, 1)), vec(notNumber, -infinite, notNumber))
	list := manyVectors(1000)
	for i, a := range list {
		b := list[(i+11)%len(list)]
		sameVector(t, "AddVectors", impl.AddVectors(a, b), vec(sum(a.X, b.X), sum(a.Y, b.Y), sum(a.Z, b.Z)))
		sameVector(t, "LessVectors", impl.LessVectors(a, b), vec(difference(a.X, b.X), difference(a.Y, b.Y), difference(a.Z, b.Z)))
		sameVector(t, "ScaleVector", impl.ScaleVector(a, b.X), vec(product(a.X, b.X), product(a.Y, b.X), product(a.Z, b.X)))
	}
}

func TestInnerOf(t *testing.T) {
	up := num(0x3f800001)
	rounded := product(up, up)
	for _, c := range []struct {
		a, b impl.Vector
		want float32
	}{
		{vec(3, 4, 0), vec(3, 4, 0), 25}, {vec(1, 2, 3), vec(4, 5, 6), 32},
		// It begins with the first product, not with +0.
		{vec(minusZero, minusZero, minusZero), vec(1, 1, 1), minusZero},
		{vec(16777216, 1, 1), vec(1, 1, 1), 16777216}, {vec(1, 1, 16777216), vec(1, 1, 1), 16777218},
		{vec(-rounded, up, 0), vec(1, up, 0), 0}, {vec(up, -rounded, 0), vec(up, 1, 0), 0}, {vec(-rounded, 0, up), vec(1, 0, up), 0},
		{vec(1e30, -1e30, 1), vec(1e30, 1e30, 1), notNumber}, {vec(notNumber, 1, 1), vec(1, 1, 1), notNumber},
		{vec(infinite, 1, 1), vec(0, 1, 1), notNumber}, {vec(infinite, 1, 1), vec(2, 1, 1), infinite},
	} {
		same(t, "InnerOf", impl.InnerOf(c.a, c.b), c.want)
	}
	list := manyVectors(1000)
	for i, a := range list {
		b := list[(i+11)%len(list)]
		want := sum(sum(product(a.X, b.X), product(a.Y, b.Y)), product(a.Z, b.Z))
		same(t, "InnerOf", impl.InnerOf(a, b), want)
	}
}

func TestCrossOf(t *testing.T) {
	x, y, z := vec(1, 0, 0), vec(0, 1, 0), vec(0, 0, 1)
	sameVector(t, "X and Y", impl.CrossOf(x, y), z)
	sameVector(t, "Y and Z", impl.CrossOf(y, z), x)
	sameVector(t, "Z and X", impl.CrossOf(z, x), y)
	sameVector(t, "Y and X", impl.CrossOf(y, x), vec(0, 0, -1))
	sameVector(t, "others", impl.CrossOf(vec(1, 2, 3), vec(4, 5, 7)), vec(-1, 5, -3))
	list := manyVectors(1000)
	for i, a := range list {
		b := list[(i+11)%len(list)]
		want := vec(
			difference(product(a.Y, b.Z), product(a.Z, b.Y)),
			difference(product(a.Z, b.X), product(a.X, b.Z)),
			difference(product(a.X, b.Y), product(a.Y, b.X)))
		sameVector(t, "CrossOf", impl.CrossOf(a, b), want)
	}
}

func TestCrossRoundsProducts(t *testing.T) {
	up := num(0x3f800001)
	rounded := product(up, up)
	sameVector(t, "the second product rounded", impl.CrossOf(vec(rounded, up, 0), vec(up, 1, 0)), vec(0, 0, 0))
	sameVector(t, "the first product rounded", impl.CrossOf(vec(up, rounded, 0), vec(1, up, 0)), vec(0, 0, 0))
	sameVector(t, "a vector and itself", impl.CrossOf(vec(0.1, 0.3, 0.7), vec(0.1, 0.3, 0.7)), vec(0, 0, 0))
}

func TestLongOf(t *testing.T) {
	for _, c := range []struct {
		v    impl.Vector
		want float32
	}{
		{vec(3, 4, 0), 5}, {vec(-3, 0, -4), 5}, {vec(0, 0, 0), 0}, {vec(minusZero, minusZero, minusZero), 0},
		{vec(1, 2, 2), 3}, {vec(1, 1, 0), num(0x3fb504f3)}, {vec(1e30, 0, 0), infinite}, {vec(1e-30, 0, 0), 0},
		{vec(infinite, 0, 0), infinite}, {vec(-infinite, 1, 0), infinite}, {vec(infinite, notNumber, 0), notNumber},
	} {
		same(t, "LongOf", impl.LongOf(c.v), c.want)
	}
	for _, v := range manyVectors(500) {
		squares := sum(sum(product(v.X, v.X), product(v.Y, v.Y)), product(v.Z, v.Z))
		same(t, "LongOf", impl.LongOf(v), float32(math.Sqrt(float64(squares))))
	}
}

func TestBetweenVectors(t *testing.T) {
	a, b := vec(1, 0, 2), vec(3, 4, -2)
	sameVector(t, "the middle", impl.BetweenVectors(a, b, 0.5), vec(2, 2, 0))
	sameVector(t, "the first one", impl.BetweenVectors(a, b, 0), a)
	sameVector(t, "the second one", impl.BetweenVectors(a, b, 1), b)
	sameVector(t, "beyond", impl.BetweenVectors(a, b, 2), vec(5, 8, -6))
	sameVector(t, "an infinite share", impl.BetweenVectors(a, vec(1, 4, -2), infinite), vec(notNumber, infinite, -infinite))
	list := manyVectors(1000)
	for i, a := range list {
		b, share := list[(i+11)%len(list)], list[(i+5)%len(list)].X
		want := vec(
			sum(a.X, product(difference(b.X, a.X), share)),
			sum(a.Y, product(difference(b.Y, a.Y), share)),
			sum(a.Z, product(difference(b.Z, a.Z), share)))
		sameVector(t, "BetweenVectors", impl.BetweenVectors(a, b, share), want)
	}
}

func TestSameVector(t *testing.T) {
	v := vec(1, 2, 3)
	for _, c := range []struct {
		a, b impl.Vector
		want bool
	}{
		{v, v, true}, {v, vec(0, 2, 3), false}, {v, vec(1, 0, 3), false}, {v, vec(1, 2, 0), false},
		{vec(0, 0, 0), vec(minusZero, 0, 0), false}, {vec(0, 0, 0), vec(0, minusZero, 0), false}, {vec(0, 0, 0), vec(0, 0, minusZero), false},
		{vec(notNumber, 1, num(0x7f800001)), vec(num(0xffffffff), 1, num(0xff800001)), true},
		{vec(notNumber, 1, 1), vec(infinite, 1, 1), false}, {vec(infinite, -infinite, 0), vec(infinite, -infinite, 0), true},
		{vec(infinite, 0, 0), vec(-infinite, 0, 0), false},
	} {
		equal(t, "SameVector", impl.SameVector(c.a, c.b), c.want)
	}
}
