package tests

import (
	"math"
	"math/big"
	"testing"

	"loop.example/g01193/impl"
)

// The tables hold bits of arguments and results; they were made by another program that computes as the document tells.
// The last rows of some of them are the arguments whose results change if a series is one step shorter, or a constant one bit different.

func TestExpNumber(t *testing.T) {
	for _, c := range [][2]uint32{
		{0x00000000, 0x3f800000}, // 0.0
		{0x80000000, 0x3f800000}, // -0.0
		{0x3f800000, 0x402df854}, // 1.0
		{0xbf800000, 0x3ebc5ab2}, // -1.0
		{0x3f000000, 0x3fd3094c}, // 0.5
		{0x41200000, 0x46ac14ee}, // 10.0
		{0x42b16666, 0x7f7a37fc}, // 88.69999694824219
		{0x42b1999a, 0x7f800000}, // 88.80000305175781
		{0x42b20000, 0x7f800000}, // 89.0
		{0xc2ae0000, 0x00b33687}, // -87.0
		{0xc2c80000, 0x0000001b}, // -100.0
		{0xc2cfcccd, 0x00000001}, // -103.9000015258789
		{0xc2d00000, 0x00000000}, // -104.0
		{0x43480000, 0x7f800000}, // 200.0
		{0x43480001, 0x7f800000}, // 200.00001525878906
		{0xc3480000, 0x00000000}, // -200.0
		{0xc3480001, 0x00000000}, // -200.00001525878906
		{0xc3160000, 0x00000000}, // -150.0
		{0x7f800000, 0x7f800000}, // inf
		{0xff800000, 0x00000000}, // -inf
		{0x7fc00000, 0x7fc00000}, // nan
		{0x00000001, 0x3f800000}, // 1.401298464324817e-45
		{0x7f7fc99e, 0x7f800000}, // 3.3999999521443642e+38
		{0xff7fc99e, 0x00000000}, // -3.3999999521443642e+38
		{0x42ab1399, 0x7d298f3a}, // 85.53827667236328
		{0x42a9b31c, 0x7caa5b70}, // 84.84982299804688
		{0xc2aaa34f, 0x01f0a4dc}, // -85.31896209716797
		{0xc29749e5, 0x08e9aaa0}, // -75.64432525634766
	} {
		same(t, "ExpNumber", impl.ExpNumber(num(c[0])), num(c[1]))
	}
}

func TestLogNumber(t *testing.T) {
	for _, c := range [][2]uint32{
		{0x3f800000, 0x00000000}, // 1.0
		{0x00000000, 0xff800000}, // 0.0
		{0x80000000, 0xff800000}, // -0.0
		{0x80000001, 0x7fc00000}, // -1.401298464324817e-45
		{0xbf800000, 0x7fc00000}, // -1.0
		{0x7f800000, 0x7f800000}, // inf
		{0xff800000, 0x7fc00000}, // -inf
		{0x7fc00000, 0x7fc00000}, // nan
		{0x00000001, 0xc2ce8ed0}, // 1.401298464324817e-45
		{0x007fffff, 0xc2aeac50}, // 1.1754942106924411e-38
		{0x00800000, 0xc2aeac50}, // 1.1754943508222875e-38
		{0x7f7fffff, 0x42b17218}, // 3.4028234663852886e+38
		{0x3f400000, 0xbe934b11}, // 0.75
		{0x3f3fffff, 0xbe934b13}, // 0.7499999403953552
		{0x3fc00000, 0x3ecf991f}, // 1.5
		{0x3fbfffff, 0x3ecf991d}, // 1.4999998807907104
		{0x40000000, 0x3f317218}, // 2.0
		{0x3f000000, 0xbf317218}, // 0.5
		{0x41200000, 0x40135d8e}, // 10.0
		{0x402df854, 0x3f7fffff}, // 2.7182817459106445
		{0x1e3ce508, 0xc23834f1}, // 9.999999682655225e-21
		{0x7149f2ca, 0x428a27b5}, // 1.0000000150474662e+30
		{0x3f800001, 0x33ffffff}, // 1.0000001192092896
		{0x3f7fffff, 0xb3800000}, // 0.9999999403953552
		{0x3c413d3a, 0xc08e158f}, // 0.011794382706284523
		{0x41178feb, 0x400fe5e7}, // 9.472636222839355
		{0x4665a9a6, 0x41198725}, // 14698.412109375
		{0x111c87f8, 0xc28085df}, // 1.2348128727387928e-28
		{0x1a8446cb, 0xc24d0a45}, // 5.470829263798239e-23
	} {
		same(t, "LogNumber", impl.LogNumber(num(c[0])), num(c[1]))
	}
}

func TestRootNumber(t *testing.T) {
	for _, c := range [][2]uint32{
		{0x41100000, 0x40400000}, // 9.0
		{0x40000000, 0x3fb504f3}, // 2.0
		{0x00000000, 0x00000000}, // 0.0
		{0x80000000, 0x80000000}, // -0.0
		{0x80000001, 0x7fc00000}, // -1.401298464324817e-45
		{0xbf800000, 0x7fc00000}, // -1.0
		{0x7f800000, 0x7f800000}, // inf
		{0xff800000, 0x7fc00000}, // -inf
		{0x7fc00000, 0x7fc00000}, // nan
		{0x00000001, 0x1a3504f3}, // 1.401298464324817e-45
		{0x7f7fffff, 0x5f7fffff}, // 3.4028234663852886e+38
		{0x3e800000, 0x3f000000}, // 0.25
		{0x40400000, 0x3fddb3d7}, // 3.0
		{0x3f800001, 0x3f800000}, // 1.0000001192092896
	} {
		same(t, "RootNumber", impl.RootNumber(num(c[0])), num(c[1]))
	}
}

func TestSineTurns(t *testing.T) {
	for _, c := range [][2]uint32{
		{0x3e800000, 0x3f800000}, // 0.25
		{0x00000000, 0x00000000}, // 0.0
		{0x80000000, 0x80000000}, // -0.0
		{0x3f000000, 0x80000000}, // 0.5
		{0x3f400000, 0xbf800000}, // 0.75
		{0x3f800000, 0x00000000}, // 1.0
		{0xbf800000, 0x00000000}, // -1.0
		{0xbe800000, 0xbf800000}, // -0.25
		{0xbf000000, 0x80000000}, // -0.5
		{0xbf400000, 0x3f800000}, // -0.75
		{0x3e800001, 0x3f800000}, // 0.2500000298023224
		{0x3e7fffff, 0x3f800000}, // 0.2499999850988388
		{0x3f000001, 0xb4c90fdb}, // 0.5000000596046448
		{0x3effffff, 0x34490fdb}, // 0.4999999701976776
		{0x3f400001, 0xbf800000}, // 0.7500000596046448
		{0x3f3fffff, 0xbf800000}, // 0.7499999403953552
		{0x3f7fffff, 0xb4c90fdb}, // 0.9999999403953552
		{0x00000001, 0x00000006}, // 1.401298464324817e-45
		{0x80000001, 0x80000000}, // -1.401298464324817e-45
		{0x8da24260, 0x80000000}, // -1.0000000031710769e-30
		{0x3e000000, 0x3f3504f3}, // 0.125
		{0x3dcccccd, 0x3f167918}, // 0.10000000149011612
		{0xbdcccccd, 0xbf167918}, // -0.10000000149011612
		{0x3eaaaaab, 0x3f5db3d7}, // 0.3333333432674408
		{0x447a1333, 0x3f7379fe}, // 1000.2999877929688
		{0xc47a1333, 0xbf7379fe}, // -1000.2999877929688
		{0x4b000000, 0x00000000}, // 8388608.0
		{0x4a800001, 0x80000000}, // 4194304.5
		{0x4a7fffff, 0xbf800000}, // 4194303.75
		{0x59800000, 0x00000000}, // 4503599627370496.0
		{0xd9800000, 0x00000000}, // -4503599627370496.0
		{0x597fffff, 0x00000000}, // 4503599358935040.0
		{0xd97fffff, 0x00000000}, // -4503599358935040.0
		{0x7f61b1e6, 0x00000000}, // 3.0000000054977558e+38
		{0x7f800000, 0x7fc00000}, // inf
		{0xff800000, 0x7fc00000}, // -inf
		{0x7fc00000, 0x7fc00000}, // nan
		{0x3e63cfc3, 0x3f7c2e29}, // 0.22247223556041718
		{0x3e70b22c, 0x3f7edf44}, // 0.23505467176437378
		{0x3ee05015, 0x3ec21dd8}, // 0.43811097741127014
		{0x3d7d7f58, 0x3ec21dd8}, // 0.06188902258872986
		{0xbe63cfc3, 0xbf7c2e29}, // -0.22247223556041718
		{0xbe67ebca, 0xbf7d3602}, // -0.22648540139198303
	} {
		same(t, "SineTurns", impl.SineTurns(num(c[0])), num(c[1]))
	}
}

func TestAngleTurns(t *testing.T) {
	for _, c := range [][3]uint32{
		{0x3f800000, 0x00000000, 0x3e800000}, // 1.0, 0.0
		{0x00000000, 0xc0000000, 0x3f000000}, // 0.0, -2.0
		{0xbf800000, 0x00000000, 0xbe800000}, // -1.0, 0.0
		{0x00000000, 0x00000000, 0x00000000}, // 0.0, 0.0
		{0x80000000, 0x80000000, 0x00000000}, // -0.0, -0.0
		{0x80000000, 0x00000000, 0x00000000}, // -0.0, 0.0
		{0x00000000, 0x3f800000, 0x00000000}, // 0.0, 1.0
		{0x80000000, 0x3f800000, 0x00000000}, // -0.0, 1.0
		{0x80000000, 0xc0000000, 0x3f000000}, // -0.0, -2.0
		{0x00000000, 0x80000001, 0x3f000000}, // 0.0, -1.401298464324817e-45
		{0x3f800000, 0x3f800000, 0x3e000000}, // 1.0, 1.0
		{0x3f800000, 0xbf800000, 0x3ec00000}, // 1.0, -1.0
		{0xbf800000, 0xbf800000, 0xbec00000}, // -1.0, -1.0
		{0xbf800000, 0x3f800000, 0xbe000000}, // -1.0, 1.0
		{0x3f800001, 0x3f800000, 0x3e000001}, // 1.0000001192092896, 1.0
		{0x3f800000, 0x3f800001, 0x3dffffff}, // 1.0, 1.0000001192092896
		{0x00000001, 0x3f800000, 0x00000000}, // 1.401298464324817e-45, 1.0
		{0x80000001, 0x3f800000, 0x80000000}, // -1.401298464324817e-45, 1.0
		{0x00000001, 0xbf800000, 0x3f000000}, // 1.401298464324817e-45, -1.0
		{0x3f800000, 0x00000001, 0x3e800000}, // 1.0, 1.401298464324817e-45
		{0x3f800000, 0x80000001, 0x3e800000}, // 1.0, -1.401298464324817e-45
		{0x40400000, 0x40800000, 0x3dd1bfae}, // 3.0, 4.0
		{0xc0400000, 0x40800000, 0xbdd1bfae}, // -3.0, 4.0
		{0x40800000, 0x40400000, 0x3e172029}, // 4.0, 3.0
		{0x40800000, 0xc0400000, 0x3eb46fec}, // 4.0, -3.0
		{0xc0800000, 0xc0400000, 0xbeb46fec}, // -4.0, -3.0
		{0x7f7fc99e, 0x00000001, 0x3e800000}, // 3.3999999521443642e+38, 1.401298464324817e-45
		{0x00000001, 0x7f7fc99e, 0x00000000}, // 1.401298464324817e-45, 3.3999999521443642e+38
		{0x00000001, 0x00000001, 0x3e000000}, // 1.401298464324817e-45, 1.401298464324817e-45
		{0x3f800000, 0x00000000, 0x3e800000}, // 1.0, 0.0
		{0x3f800000, 0x80000000, 0x3e800000}, // 1.0, -0.0
		{0xbf800000, 0x80000000, 0xbe800000}, // -1.0, -0.0
		{0x7f800000, 0x3f800000, 0x7fc00000}, // inf, 1.0
		{0x3f800000, 0x7f800000, 0x7fc00000}, // 1.0, inf
		{0xff800000, 0x3f800000, 0x7fc00000}, // -inf, 1.0
		{0x3f800000, 0xff800000, 0x7fc00000}, // 1.0, -inf
		{0x7fc00000, 0x3f800000, 0x7fc00000}, // nan, 1.0
		{0x3f800000, 0x7fc00000, 0x7fc00000}, // 1.0, nan
		{0x7fc00000, 0x7fc00000, 0x7fc00000}, // nan, nan
		{0x00000000, 0x7f800000, 0x7fc00000}, // 0.0, inf
		{0x7f800000, 0x00000000, 0x7fc00000}, // inf, 0.0
		{0x00000000, 0x7fc00000, 0x7fc00000}, // 0.0, nan
		{0x3e99999a, 0x3f333333, 0x3d83f966}, // 0.30000001192092896, 0.699999988079071
		{0x42c80000, 0x40e00000, 0x3e749c40}, // 100.0, 7.0
		{0x332332e9, 0x3f800000, 0x31cfca8f}, // 3.7997697432956556e-08, 1.0
		{0x39050b0d, 0x3f800000, 0x37a96554}, // 0.0001268798514502123, 1.0
		{0x423f082b, 0x449a5225, 0x3bc9a4ce}, // 47.75797653198242, 1234.5670166015625
	} {
		same(t, "AngleTurns", impl.AngleTurns(num(c[0]), num(c[1])), num(c[2]))
	}
}

func TestFunctionsOfNotANumbers(t *testing.T) {
	for _, bits := range []uint32{0x7f800001, 0x7fbfffff, 0x7fc00000, 0x7fffffff, 0xff800001, 0xffc00000, 0xffffffff} {
		x := num(bits)
		same(t, "ExpNumber", impl.ExpNumber(x), notNumber)
		same(t, "LogNumber", impl.LogNumber(x), notNumber)
		same(t, "RootNumber", impl.RootNumber(x), notNumber)
		same(t, "SineTurns", impl.SineTurns(x), notNumber)
		for _, y := range []float32{0, minusZero, 1, infinite, x} {
			same(t, "AngleTurns", impl.AngleTurns(x, y), notNumber)
			same(t, "AngleTurns", impl.AngleTurns(y, x), notNumber)
		}
	}
}

// wide is a 64-bit number whose operations round on their own on each machine, but for results that are not normal.
type wide struct{ value *big.Float }

func wideOf(x float64) wide {
	return wide{new(big.Float).SetPrec(53).SetFloat64(x)}
}

func (a wide) plus(b wide) wide  { return wide{new(big.Float).SetPrec(53).Add(a.value, b.value)} }
func (a wide) minus(b wide) wide { return wide{new(big.Float).SetPrec(53).Sub(a.value, b.value)} }
func (a wide) times(b wide) wide { return wide{new(big.Float).SetPrec(53).Mul(a.value, b.value)} }
func (a wide) by(b wide) wide    { return wide{new(big.Float).SetPrec(53).Quo(a.value, b.value)} }
func (a wide) root() wide        { return wide{new(big.Float).SetPrec(53).Sqrt(a.value)} }

func (a wide) narrow() float32 {
	x, _ := a.value.Float32()
	return x
}

func wideExp(x float32) float32 {
	t := wideOf(float64(x)).by(wideOf(256))
	p := wideOf(1)
	for k := 12.0; k >= 1; k-- {
		p = wideOf(1).plus(t.times(p).by(wideOf(k)))
	}
	for range 8 {
		p = p.times(p)
	}
	return p.narrow()
}

func wideLog(x float32) float32 {
	share, e := math.Frexp(float64(x)) // from 0.5 to below 1
	if share < 0.75 {
		share, e = 2*share, e-1
	}
	v, one := wideOf(share), wideOf(1)
	s := v.minus(one).by(v.plus(one))
	u := s.times(s)
	q := wideOf(0)
	for k := 25.0; k >= 1; k -= 2 {
		q = one.by(wideOf(k)).plus(u.times(q))
	}
	return wideOf(2).times(s.times(q)).plus(wideOf(float64(e)).times(wideOf(0.6931471805599453))).narrow()
}

func wideSine(x float32) float32 {
	f := wideOf(math.Mod(float64(x), 1))
	if f.value.Sign() < 0 {
		f = f.plus(wideOf(1))
	}
	second := f.value.Cmp(big.NewFloat(0.5)) >= 0
	if second {
		f = f.minus(wideOf(0.5))
	}
	if f.value.Cmp(big.NewFloat(0.25)) > 0 {
		f = wideOf(0.5).minus(f)
	}
	z := f.times(wideOf(6.283185307179586))
	u := z.times(z)
	p := wideOf(1)
	for k := 8.0; k >= 1; k-- {
		p = wideOf(1).minus(u.times(p).by(wideOf(2 * k * (2*k + 1))))
	}
	if second {
		return -z.times(p).narrow()
	}
	return z.times(p).narrow()
}

func wideAngle(y, x float32) float32 {
	a, b, one := wideOf(math.Abs(float64(y))), wideOf(math.Abs(float64(x))), wideOf(1)
	steep := a.value.Cmp(b.value) > 0
	t := wideOf(0)
	if steep {
		t = b.by(a)
	} else {
		t = a.by(b)
	}
	for range 3 {
		t = t.by(one.plus(one.plus(t.times(t)).root()))
	}
	u := t.times(t)
	p := wideOf(0)
	for k := 15.0; k >= 1; k -= 2 {
		p = one.by(wideOf(k)).minus(u.times(p))
	}
	angle := wideOf(8).times(t.times(p)).by(wideOf(6.283185307179586))
	if steep {
		angle = wideOf(0.25).minus(angle)
	}
	if x < 0 {
		angle = wideOf(0.5).minus(angle)
	}
	if y < 0 {
		return -angle.narrow()
	}
	return angle.narrow()
}

// TestFunctionsLikeTold compares the functions with the same steps in numbers that are never fused.
func TestFunctionsLikeTold(t *testing.T) {
	list := manyNumbers(4000)
	for i, x := range list {
		if !impl.IsFinite(x) {
			continue
		}
		for _, small := range []float32{x, x * 50} {
			if -200 <= small && small <= 200 {
				same(t, "ExpNumber", impl.ExpNumber(small), wideExp(small))
			}
		}
		if x > 0 {
			same(t, "LogNumber", impl.LogNumber(x), wideLog(x))
			same(t, "RootNumber", impl.RootNumber(x), wideOf(float64(x)).root().narrow())
		}
		if x != 0 && math.Abs(float64(x)) < 1<<52 { // the signs of zeros are left to the table
			if got, want := impl.SineTurns(x), wideSine(x); got != 0 || want != 0 {
				same(t, "SineTurns", got, want)
			}
		}
		for _, y := range []float32{list[(i+1)%len(list)], list[(i+7)%len(list)]} {
			if impl.IsFinite(y) && (x != 0 || y != 0) {
				same(t, "AngleTurns", impl.AngleTurns(y, x), wideAngle(y, x))
			}
		}
	}
}

// TestAnglesLeadBack goes from points to their angles and back by sines.
func TestAnglesLeadBack(t *testing.T) {
	list := manyNumbers(2000)
	for i, x := range list {
		y := list[(i+3)%len(list)]
		if !impl.IsFinite(x) || !impl.IsFinite(y) || x == 0 && y == 0 {
			continue
		}
		angle := impl.AngleTurns(y, x)
		if !(-0.5 <= angle && angle <= 0.5) {
			t.Fatalf("the angle of %v, %v is %v", y, x, angle)
		}
		long := math.Hypot(float64(x), float64(y))
		backY, backX := float64(impl.SineTurns(angle)), float64(impl.SineTurns(0.25-angle))
		if math.Abs(backY-float64(y)/long) > 1e-6 || math.Abs(backX-float64(x)/long) > 1e-6 {
			t.Errorf("%v, %v has the angle %v, which leads to %v, %v", y, x, angle, backY, backX)
		}
	}
}

// TestFunctionsAreNear holds the functions against those of the library.
func TestFunctionsAreNear(t *testing.T) {
	near := func(what string, x, got float32, want float64) {
		t.Helper()
		if math.Abs(float64(got)-want) > 1e-6*math.Max(1, math.Abs(want)) {
			t.Errorf("%s of %v: got %v, want about %v", what, x, got, want)
		}
	}
	for _, x := range manyNumbers(2000) {
		if math.Abs(float64(x)) <= 80 {
			near("ExpNumber", x, impl.ExpNumber(x), math.Exp(float64(x)))
		}
		if impl.IsFinite(x) && x > 0 {
			near("LogNumber", x, impl.LogNumber(x), math.Log(float64(x)))
		}
		if math.Abs(float64(x)) < 1<<52 {
			near("SineTurns", x, impl.SineTurns(x), math.Sin(2*math.Pi*math.Mod(float64(x), 1)))
		}
	}
}
