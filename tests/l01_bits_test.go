package tests

import (
	"math"
	"math/big"
	"testing"

	"loop.example/g01193/impl"
)

func TestSameNumber(t *testing.T) {
	list := manyNumbers(100)
	for _, a := range list {
		for _, b := range list {
			if got, want := impl.SameNumber(a, b), bitsOf(a) == bitsOf(b); got != want {
				t.Errorf("SameNumber %v %v: got %v", a, b, got)
			}
		}
	}
	equal(t, "both zeros", impl.SameNumber(0, minusZero), false)
	equal(t, "not-a-numbers with different bits", impl.SameNumber(num(0x7fc00000), num(0xff800001)), true)
	equal(t, "a not-a-number and an infinity", impl.SameNumber(notNumber, infinite), false)
}

func TestIsFinite(t *testing.T) {
	for _, x := range manyNumbers(1000) {
		want := !math.IsNaN(float64(x)) && !math.IsInf(float64(x), 0)
		if got := impl.IsFinite(x); got != want {
			t.Errorf("IsFinite %v: got %v", x, got)
		}
	}
}

func TestBitsOf(t *testing.T) {
	for _, c := range []struct {
		x    float32
		want int64
	}{
		{1, 1065353216}, {0, 0}, {minusZero, 2147483648}, {num(1), 1}, {num(0xffffff), 0xffffff},
		{infinite, 2139095040}, {-infinite, 4286578688}, {math.MaxFloat32, 2139095039},
		{num(0x7f800001), 2143289344}, {num(0x7fffffff), 2143289344}, {num(0xff800001), 2143289344},
		{num(0xffffffff), 2143289344}, {notNumber, 2143289344}, {-notNumber, 2143289344},
	} {
		equal(t, "bits", impl.BitsOf(c.x), c.want)
	}
}

func TestFromBits(t *testing.T) {
	for _, n := range []int64{-1, 4294967296, math.MinInt64, math.MaxInt64, 1 << 32, -4294967295, 1<<32 + 1065353216} {
		x, ok := impl.FromBits(n)
		fails(t, "FromBits", bitsOf(x), ok)
	}
	for n := int64(0); n <= 4294967295; n += 65535 { // both ends among them
		x, ok := impl.FromBits(n)
		succeeds(t, "FromBits", x, ok, num(uint32(n)))
	}
	for _, n := range []int64{0x7f800001, 0x7fffffff, 0xff800001, 0xffffffff, 0x7fc00000} {
		x, ok := impl.FromBits(n)
		succeeds(t, "FromBits", x, ok, notNumber)
	}
	for _, x := range manyNumbers(1000) {
		y, ok := impl.FromBits(impl.BitsOf(x))
		succeeds(t, "there and back", y, ok, x)
	}
}

func TestNarrowNumberTies(t *testing.T) {
	for _, c := range []struct {
		x    float64
		want float32
	}{
		{1 + 0x1p-24, 1}, {1 + 0x1p-24 + 0x1p-52, num(0x3f800001)}, {1 + 0x1p-24 - 0x1p-52, 1},
		{1 + 0x3p-24, num(0x3f800002)}, {-1 - 0x1p-24, -1}, {-1 - 0x3p-24, num(0xbf800002)},
		{16777217, 16777216}, {16777219, 16777220},
		{0x1p-150, 0}, {-0x1p-150, minusZero}, {0x1.0000000000001p-150, num(1)}, {0x3p-150, num(2)},
		{-0x1.0000000000001p-150, num(0x80000001)}, {0x1p-149, num(1)}, {0x1p-1074, 0},
		{0x1.fffffep127, math.MaxFloat32}, {0x1.fffffefffffffp127, math.MaxFloat32},
		{0x1.ffffffp127, infinite}, {-0x1.ffffffp127, -infinite}, {math.MaxFloat64, infinite},
		{0x1p-126 - 0x1p-150, num(0x00800000)}, {0, 0}, {math.Copysign(0, -1), minusZero},
		{math.Inf(1), infinite}, {math.Inf(-1), -infinite}, {math.NaN(), notNumber}, {0.1, num(0x3dcccccd)},
	} {
		same(t, "NarrowNumber", impl.NarrowNumber(c.x), c.want)
	}
}

func TestNarrowNumberIsNearest(t *testing.T) {
	list := manyNumbers(2000)
	for i, x := range list {
		if math.IsNaN(float64(x)) {
			continue
		}
		for _, other := range []float64{float64(list[(i+1)%len(list)]) / 3, 0x1p-25, 0x1.0000000000001p-24} {
			wide := float64(x) + float64(x)*other
			if math.IsNaN(wide) {
				continue
			}
			want, _ := new(big.Float).SetFloat64(wide).Float32()
			same(t, "NarrowNumber", impl.NarrowNumber(wide), want)
		}
	}
}

func TestNextNumbers(t *testing.T) {
	for _, c := range []struct{ x, up, down float32 }{
		{0, num(1), num(0x80000001)}, {minusZero, num(1), num(0x80000001)},
		{num(1), num(2), 0}, {num(0x80000001), minusZero, num(0x80000002)},
		{infinite, infinite, math.MaxFloat32}, {-infinite, -math.MaxFloat32, -infinite},
		{math.MaxFloat32, infinite, num(0x7f7ffffe)}, {-math.MaxFloat32, num(0xff7ffffe), -infinite},
		{notNumber, notNumber, notNumber}, {num(0xff800001), notNumber, notNumber}, {num(0x7fffffff), notNumber, notNumber},
		{1, num(0x3f800001), num(0x3f7fffff)}, {-1, num(0xbf7fffff), num(0xbf800001)},
		{num(0x007fffff), num(0x00800000), num(0x007ffffe)}, {num(0x80800000), num(0x807fffff), num(0x80800001)},
	} {
		same(t, "NextUp", impl.NextUp(c.x), c.up)
		same(t, "NextDown", impl.NextDown(c.x), c.down)
	}
	for _, x := range manyNumbers(2000) {
		if x != x || x == 0 || math.IsInf(float64(x), 0) {
			continue
		}
		same(t, "NextUp", impl.NextUp(x), math.Nextafter32(x, infinite))
		same(t, "NextDown", impl.NextDown(x), math.Nextafter32(x, -infinite))
	}
}

func TestFlushing(t *testing.T) {
	for _, c := range []struct {
		x       float32
		flushed float32
		small   bool
	}{
		{num(1), 0, true}, {num(0x80000001), minusZero, true}, {num(0x007fffff), 0, true}, {num(0x807fffff), minusZero, true},
		{num(0x00800000), num(0x00800000), false}, {num(0x80800000), num(0x80800000), false},
		{0, 0, false}, {minusZero, minusZero, false}, {1, 1, false}, {-3, -3, false},
		{infinite, infinite, false}, {-infinite, -infinite, false}, {notNumber, notNumber, false}, {num(0xff800001), notNumber, false},
	} {
		same(t, "FlushNumber", impl.FlushNumber(c.x), c.flushed)
		equal(t, "IsSubnormal", impl.IsSubnormal(c.x), c.small)
	}
}
