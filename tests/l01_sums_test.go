package tests

import (
	"math"
	"testing"

	"loop.example/g01193/impl"
)

// filled returns a list of count numbers x.
func filled(count int, x float32) []float32 {
	list := make([]float32, count)
	for i := range list {
		list[i] = x
	}
	return list
}

func TestSumNumbers(t *testing.T) {
	for _, c := range []struct {
		list []float32
		want float32
	}{
		{nil, 0}, {[]float32{}, 0}, {[]float32{minusZero}, 0}, {[]float32{minusZero, minusZero}, 0},
		{[]float32{1, 2, 3.5}, 6.5}, {[]float32{1e8, 1, -1e8}, 0}, {[]float32{1e8, -1e8, 1}, 1},
		{[]float32{16777216, 1, 1}, 16777216}, {[]float32{1, 1, 16777216}, 16777218},
		{[]float32{math.MaxFloat32, math.MaxFloat32, -math.MaxFloat32}, infinite},
		{[]float32{infinite, -infinite}, notNumber}, {[]float32{1, num(0xff800001)}, notNumber},
		{[]float32{num(1), num(2)}, num(3)}, {[]float32{0.1, 0.2, 0.3}, num(0x3f19999a)}, {filled(256, 1), 256},
	} {
		got, ok := impl.SumNumbers(c.list)
		succeeds(t, "SumNumbers", got, ok, c.want)
	}
	got, ok := impl.SumNumbers(filled(257, 1))
	fails(t, "SumNumbers of one too many", got, ok)
}

func TestSumPairs(t *testing.T) {
	for _, c := range []struct {
		list []float32
		want float32
	}{
		{nil, 0}, {[]float32{minusZero}, minusZero}, {[]float32{minusZero, minusZero}, minusZero},
		{[]float32{minusZero, 0}, 0}, {[]float32{1, 2, 3.5}, 6.5},
		// The halves of three numbers are the first two and the last one.
		{[]float32{16777216, 1, 1}, 16777216}, {[]float32{1, 1, 16777216}, 16777218},
		{[]float32{16777216, 1, 1, 1}, 16777218},
		// The halves of five numbers are three and two, and the first one has two and one.
		{[]float32{16777216, 1, 1, 1, 1}, 16777218}, {[]float32{1, 16777216, 1, 1, 1}, 16777218},
		{[]float32{1, 1, 16777216, 1, 1}, 16777220},
		{[]float32{infinite, 1, -infinite}, notNumber}, {[]float32{notNumber}, notNumber}, {filled(256, 1), 256},
		{append([]float32{16777216}, filled(255, 1)...), 16777216 + 254},
	} {
		got, ok := impl.SumPairs(c.list)
		succeeds(t, "SumPairs", got, ok, c.want)
	}
	got, ok := impl.SumPairs(filled(257, 1))
	fails(t, "SumPairs of one too many", got, ok)
}

func TestDots(t *testing.T) {
	third := float32(1) / 3
	up := num(0x3f800001)
	// A product that is not rounded before the sum leaves what the rounding takes away.
	rounded := up * up
	for _, c := range []struct {
		a, b         []float32
		narrow, wide float32
	}{
		{nil, nil, 0, 0}, {nil, []float32{}, 0, 0}, {[]float32{minusZero}, []float32{1}, 0, 0},
		{[]float32{1, 2}, []float32{3, 4}, 11, 11},
		{[]float32{rounded, up}, []float32{-1, up}, 0, 0x1p-46},
		{[]float32{16777216, 1, 1}, []float32{1, 1, 1}, 16777216, 16777218},
		{[]float32{1e30, 1}, []float32{1e30, 1}, infinite, infinite},
		{[]float32{1e30, -1e30, 1}, []float32{1e30, 1e30, 1}, notNumber, 1},
		{[]float32{1e30, 1e30, 1}, []float32{-1e30, 1e30, 1}, notNumber, 1},
		{[]float32{1e-30, 1}, []float32{1e-30, 0}, 0, 0}, {[]float32{-1e-30}, []float32{1e-30}, 0, minusZero},
		{[]float32{infinite}, []float32{0}, notNumber, notNumber}, {[]float32{notNumber}, []float32{1}, notNumber, notNumber},
		{filled(256, 2), filled(256, 3), 1536, 1536}, {[]float32{third}, []float32{third}, third * third, third * third},
	} {
		got, ok := impl.DotNumbers(c.a, c.b)
		succeeds(t, "DotNumbers", got, ok, c.narrow)
		got, ok = impl.DotWide(c.a, c.b)
		succeeds(t, "DotWide", got, ok, c.wide)
	}
}

func TestDotsFail(t *testing.T) {
	for _, c := range []struct{ a, b []float32 }{
		{filled(257, 1), filled(257, 1)}, {filled(2, 1), filled(1, 1)}, {filled(1, 1), filled(2, 1)},
		{nil, filled(1, 1)}, {filled(1, 1), nil}, {filled(256, 1), filled(257, 1)}, {filled(257, 1), filled(256, 1)},
	} {
		got, ok := impl.DotNumbers(c.a, c.b)
		fails(t, "DotNumbers", got, ok)
		got, ok = impl.DotWide(c.a, c.b)
		fails(t, "DotWide", got, ok)
	}
}

// TestSumsLikeTold compares sums with those of 64-bit numbers that are narrowed after each operation, which rounds in the same way.
func TestSumsLikeTold(t *testing.T) {
	list := manyNumbers(2000)
	for i := 0; i+40 < len(list); i += 13 {
		a, b := list[i:i+17], list[i+20:i+37]
		var sum, dot float32
		wide := 0.0
		for k := range a {
			sum = float32(float64(sum) + float64(a[k]))
			product := float32(float64(a[k]) * float64(b[k]))
			dot = float32(float64(dot) + float64(product))
			wide += float64(float64(a[k]) * float64(b[k]))
		}
		got, ok := impl.SumNumbers(a)
		succeeds(t, "SumNumbers", got, ok, sum)
		got, ok = impl.DotNumbers(a, b)
		succeeds(t, "DotNumbers", got, ok, dot)
		got, ok = impl.DotWide(a, b)
		succeeds(t, "DotWide", got, ok, float32(wide))
	}
}
