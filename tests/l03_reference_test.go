package tests

import (
	"math"
	"math/rand"
	"testing"

	"loop.example/g01193/impl"
)

// These functions march once more, as the document tells it, with the operations and distances of the second version
// of the chapters before.

func toldFinite(list ...float32) bool {
	for _, x := range list {
		if math.IsNaN(float64(x)) || math.IsInf(float64(x), 0) {
			return false
		}
	}
	return true
}

func toldAdd(a, b impl.Vector) impl.Vector { return vec(sum(a.X, b.X), sum(a.Y, b.Y), sum(a.Z, b.Z)) }

func toldTake(a, b impl.Vector) impl.Vector {
	return vec(difference(a.X, b.X), difference(a.Y, b.Y), difference(a.Z, b.Z))
}

func toldTimes(v impl.Vector, by float32) impl.Vector {
	return vec(product(v.X, by), product(v.Y, by), product(v.Z, by))
}

func toldBetween(a, b impl.Vector, share float32) impl.Vector {
	return toldAdd(a, toldTimes(toldTake(b, a), share))
}

func toldUnit(v impl.Vector) impl.Vector {
	long := toldLong(v.X, v.Y, v.Z)
	by := quotient(1, long)
	if long == 0 || !toldFinite(long, by) {
		return impl.Vector{}
	}
	return toldTimes(v, by)
}

func toldRay(r impl.Ray) bool {
	unit := toldUnit(r.Way)
	zero, odd := true, false
	for _, x := range []float32{unit.X, unit.Y, unit.Z} {
		zero = zero && x == 0
		odd = odd || math.IsNaN(float64(x))
	}
	return toldFinite(r.From.X, r.From.Y, r.From.Z) && !zero && !odd
}

func toldMarchIsValid(m impl.March) bool {
	return toldFinite(m.Near, m.Most) && m.Near > 0 && m.Most >= 0 && m.Steps > 0 && m.Steps < 65
}

func toldPlace(r impl.Ray, far float32) impl.Vector {
	return toldAdd(r.From, toldTimes(toldUnit(r.Way), far))
}

func toldAt(s impl.Shape, p impl.Vector) float32 {
	d, _ := toldDistance(s, int64(len(s.Nodes))-1, p)
	return d
}

func toldStep(s impl.Shape, p impl.Vector) float32 {
	slope := toldFactor(s, int64(len(s.Nodes))-1)
	if slope < 1 || math.IsNaN(float64(slope)) {
		slope = 1
	}
	return quotient(toldAt(s, p), slope)
}

func toldHit(s impl.Shape, r impl.Ray, m impl.March) impl.Hit {
	var far float32
	for step := int64(1); step <= m.Steps; step++ {
		place := toldPlace(r, far)
		if toldAt(s, place) < m.Near {
			return impl.Hit{Kind: impl.HitSurface, Steps: step, Far: far, Place: place}
		}
		far = sum(far, toldStep(s, place))
		if math.IsNaN(float64(far)) || far > m.Most {
			return impl.Hit{Kind: impl.HitMiss, Steps: step, Far: far, Place: toldPlace(r, far)}
		}
	}
	return impl.Hit{Kind: impl.HitGiven, Steps: m.Steps, Far: far, Place: toldPlace(r, far)}
}

func toldNormal(s impl.Shape, p impl.Vector, step float32) impl.Vector {
	x, y, z := vec(step, 0, 0), vec(0, step, 0), vec(0, 0, step)
	return toldUnit(vec(
		difference(toldAt(s, toldAdd(p, x)), toldAt(s, toldTake(p, x))),
		difference(toldAt(s, toldAdd(p, y)), toldAt(s, toldTake(p, y))),
		difference(toldAt(s, toldAdd(p, z)), toldAt(s, toldTake(p, z)))))
}

// toldShadowRay returns the ray towards a light, and the march along it.
func toldShadowRay(p, normal, light impl.Vector, m impl.March) (impl.Ray, impl.March) {
	from := toldAdd(p, toldTimes(normal, product(2, m.Near)))
	way := toldTake(light, from)
	if long := toldLong(way.X, way.Y, way.Z); long < m.Most {
		m.Most = long
	}
	return impl.Ray{From: from, Way: way}, m
}

func toldAmbient(s impl.Shape, p, normal impl.Vector, step float32, count int64) float32 {
	var all float32
	for k := int64(1); k <= count; k++ {
		f := product(float32(k), step)
		term := quotient(difference(f, toldAt(s, toldAdd(p, toldTimes(normal, f)))), f)
		switch {
		case math.IsNaN(float64(term)) || term < 0:
			term = 0
		case term > 1:
			term = 1
		}
		all = sum(all, term)
	}
	return difference(1, quotient(all, float32(count)))
}

func toldCrossing(s impl.Shape, a, b impl.Vector, rounds int64) (impl.Vector, impl.Vector) {
	for range rounds {
		m := toldBetween(a, b, 0.5)
		if (toldAt(s, m) < 0) == (toldAt(s, a) < 0) {
			a = m
		} else {
			b = m
		}
	}
	return a, b
}

func sameHit(t *testing.T, what string, got, want impl.Hit) {
	t.Helper()
	equal(t, what+", Kind", got.Kind, want.Kind)
	equal(t, what+", Steps", got.Steps, want.Steps)
	same(t, what+", Far", got.Far, want.Far)
	sameVector(t, what+", Place", got.Place, want.Place)
}

// marchesLikeTold compares all functions of rays and marches.
func marchesLikeTold(t *testing.T, s impl.Shape, r impl.Ray, m impl.March, far float32) impl.Hit {
	t.Helper()
	sameVector(t, "UnitOf", impl.UnitOf(r.Way), toldUnit(r.Way))
	equal(t, "ValidRay", impl.ValidRay(r), toldRay(r))
	equal(t, "ValidMarch", impl.ValidMarch(m), toldMarchIsValid(m))
	step, ok := impl.SafeStep(s, r.From)
	succeeds(t, "SafeStep", step, ok, toldStep(s, r.From))
	place, ok := impl.PlaceOn(r, far)
	hit, hitOk := impl.MarchRay(s, r, m)
	if !toldRay(r) {
		fails(t, "PlaceOn", place, ok)
	} else {
		equal(t, "PlaceOn succeeds", ok, true)
		sameVector(t, "PlaceOn", place, toldPlace(r, far))
	}
	if !toldRay(r) || !toldMarchIsValid(m) {
		fails(t, "MarchRay", hit, hitOk)
		return impl.Hit{}
	}
	equal(t, "MarchRay succeeds", hitOk, true)
	sameHit(t, "MarchRay", hit, toldHit(s, r, m))
	return hit
}

// lightsLikeTold compares all functions of surfaces, with places and normals of any kind.
func lightsLikeTold(t *testing.T, s impl.Shape, p, normal, light impl.Vector, step float32, m impl.March, count int64) {
	t.Helper()
	n, ok := impl.NormalAt(s, p, step)
	equal(t, "NormalAt succeeds", ok, true)
	sameVector(t, "NormalAt", n, toldNormal(s, p, step))
	open, ok := impl.AmbientAt(s, p, normal, step, count)
	succeeds(t, "AmbientAt", open, ok, toldAmbient(s, p, normal, step, count))
	dark, ok := impl.InShadow(s, p, normal, light, m)
	r, shorter := toldShadowRay(p, normal, light, m)
	if !toldRay(r) {
		fails(t, "InShadow", dark, ok)
		return
	}
	equal(t, "InShadow succeeds", ok, true)
	equal(t, "InShadow", dark, toldHit(s, r, shorter).Kind == impl.HitSurface)
}

func linesLikeTold(t *testing.T, s impl.Shape, a, b impl.Vector, count, rounds int64) {
	t.Helper()
	list, ok := impl.ProbeLine(s, a, b, count)
	equal(t, "ProbeLine succeeds", ok, true)
	var want []float32
	for k := int64(0); k <= count; k++ {
		want = append(want, toldAt(s, toldBetween(a, b, quotient(float32(k), float32(count)))))
	}
	sameList(t, "ProbeLine", list, want)
	first, second, ok := impl.CrossingAt(s, a, b, rounds)
	if (toldAt(s, a) < 0) == (toldAt(s, b) < 0) {
		failsCrossing(t, "CrossingAt", first, second, ok)
		return
	}
	equal(t, "CrossingAt succeeds", ok, true)
	c, d := toldCrossing(s, a, b, rounds)
	sameVector(t, "CrossingAt, first", first, c)
	sameVector(t, "CrossingAt, second", second, d)
}

func randomRay(r *rand.Rand) impl.Ray {
	from := randomPoint(r, 6)
	// Most rays go somewhere near the middle, where the shapes are.
	return impl.Ray{From: from, Way: toldTake(randomPoint(r, 2), from)}
}

func randomMarch(r *rand.Rand) impl.March {
	return impl.March{Near: r.Float32()*0.1 + 1e-6, Most: r.Float32() * 20, Steps: int64(1 + r.Intn(impl.MaxMarch))}
}

// TestMarchesLikeTold compares marches at shapes of all sizes with what the text tells, bit for bit.
func TestMarchesLikeTold(t *testing.T) {
	r := rand.New(rand.NewSource(21))
	kinds := map[int64]int{}
	for i := range 2000 {
		s := randomShape(r, 1+i%impl.MaxNodes, kindRows())
		for range 8 {
			hit := marchesLikeTold(t, s, randomRay(r), randomMarch(r), r.Float32()*8-4)
			kinds[hit.Kind]++
		}
		lightsLikeTold(t, s, randomPoint(r, 3), randomPoint(r, 1.5), randomPoint(r, 6), r.Float32()+1e-6, randomMarch(r), int64(1+r.Intn(8)))
		linesLikeTold(t, s, randomPoint(r, 3), randomPoint(r, 3), int64(1+r.Intn(100)), int64(r.Intn(61)))
	}
	for _, kind := range []int64{impl.HitMiss, impl.HitSurface, impl.HitGiven} {
		if kinds[kind] < 1000 {
			t.Errorf("only %d marches ended with the kind %d", kinds[kind], kind)
		}
	}
}

// oddVector has numbers of all sizes, or ordinary ones.
func oddVector(r *rand.Rand, numbers []float32) impl.Vector {
	pick := func() float32 {
		if r.Intn(2) == 0 {
			return r.Float32()*4 - 2
		}
		return numbers[r.Intn(len(numbers))]
	}
	return vec(pick(), pick(), pick())
}

// oddMarch is valid most of the time.
func oddMarch(r *rand.Rand, numbers []float32) impl.March {
	m := randomMarch(r)
	if r.Intn(2) == 0 {
		m.Near = numbers[r.Intn(len(numbers))]
	}
	if r.Intn(2) == 0 {
		m.Most = numbers[r.Intn(len(numbers))]
	}
	if r.Intn(20) == 0 {
		m.Steps = int64(r.Intn(70) - 3)
	}
	return m
}

// TestOddMarchesLikeTold does this with numbers of all sizes, which lead to all sorts of infinities and not-a-numbers.
func TestOddMarchesLikeTold(t *testing.T) {
	r := rand.New(rand.NewSource(22))
	numbers := manyNumbers(200)
	steps, marches := positives(numbers), 0
	for i := range 2000 {
		s := randomShape(r, 1+i%impl.MaxNodes, kindRows())
		if i%2 == 0 {
			s = oddShape(r, s, numbers)
		}
		for range 8 {
			along, m := ray(oddVector(r, numbers), oddVector(r, numbers)), oddMarch(r, numbers)
			if hit := marchesLikeTold(t, s, along, m, numbers[r.Intn(len(numbers))]); hit.Steps > 0 {
				marches++
			}
			m = randomMarch(r)
			m.Near = steps[r.Intn(len(steps))]
			lightsLikeTold(t, s, oddVector(r, numbers), oddVector(r, numbers), oddVector(r, numbers), steps[r.Intn(len(steps))], m, int64(1+r.Intn(8)))
		}
		linesLikeTold(t, s, oddVector(r, numbers), oddVector(r, numbers), int64(1+r.Intn(100)), int64(r.Intn(61)))
	}
	if marches < 2000 {
		t.Errorf("only %d of the marches were valid", marches)
	}
}

// positives returns those numbers that are finite and greater than 0.
func positives(list []float32) []float32 {
	var some []float32
	for _, x := range list {
		if toldFinite(x) && x > 0 {
			some = append(some, x)
		}
	}
	return some
}
