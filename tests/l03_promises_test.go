package tests

import (
	"fmt"
	"math"
	"math/rand"
	"strings"
	"testing"

	"loop.example/g01193/impl"
)

// TestExamplesOfChapter3 asserts the examples at the end of the chapter.
func TestExamplesOfChapter3(t *testing.T) {
	s := shape(ball(1))
	hit, ok := impl.MarchRay(s, impl.Ray{From: vec(-4, 0, 0), Way: vec(1, 0, 0)}, impl.March{Near: 1.0 / 8, Most: 16, Steps: 8})
	equal(t, "MarchRay succeeds", ok, true)
	equal(t, "the ray ends at the surface", hit.Kind, impl.HitSurface)
	same(t, "the ray ends at 3", hit.Far, 3)
	equal(t, "the ray ends in its second step", hit.Steps, 2)
	normal, ok := impl.NormalAt(s, vec(2, 0, 0), 1)
	equal(t, "NormalAt succeeds", ok, true)
	sameVector(t, "the normal", normal, vec(1, 0, 0))
}

// hitsOfAllSteps returns how a ray ends with 1, 2 and so on up to MaxMarch steps.
func hitsOfAllSteps(t *testing.T, s impl.Shape, r impl.Ray, m impl.March) []impl.Hit {
	t.Helper()
	var hits []impl.Hit
	for steps := int64(1); steps <= impl.MaxMarch; steps++ {
		m.Steps = steps
		hit, ok := impl.MarchRay(s, r, m)
		equal(t, "MarchRay succeeds", ok, true)
		hits = append(hits, hit)
	}
	return hits
}

// slowed adds a steep plane that is far away, which only makes the steps shorter.
func slowed(s impl.Shape) impl.Shape {
	root := int64(len(s.Nodes)) - 1
	return shape(append(s.Nodes, plane(0, 64, 0, -1e5), node(impl.NodeUnion, root, root+1))...)
}

// TestMarchesEndInTheSameWay checks that an end is the same with more steps, and that there is none with fewer.
func TestMarchesEndInTheSameWay(t *testing.T) {
	r := rand.New(rand.NewSource(26))
	ends := map[int64]int{}
	for i := range 1500 {
		s := randomShape(r, 1+i%impl.MaxNodes, kindRows())
		if i%4 == 0 {
			s = slowed(randomShape(r, 1+i%(impl.MaxNodes-2), kindRows()))
		}
		from, m := randomRay(r), randomMarch(r)
		hits := hitsOfAllSteps(t, s, from, m)
		end := hits[len(hits)-1]
		ends[end.Kind]++
		last := float32(0)
		for j, hit := range hits {
			steps := int64(j + 1)
			if steps >= end.Steps && end.Kind != impl.HitGiven {
				sameHit(t, "a march with more steps", hit, end)
				continue
			}
			equal(t, "a march with fewer steps", hit.Kind, impl.HitGiven)
			equal(t, "the steps of one that was given up", hit.Steps, steps)
			if !(hit.Far >= last && hit.Far <= m.Most) {
				t.Errorf("far is %v, behind %v, and at most %v", hit.Far, last, m.Most)
			}
			last = hit.Far
		}
		if end.Kind == impl.HitMiss && end.Far <= m.Most || end.Kind != impl.HitMiss && !(end.Far <= m.Most) {
			t.Errorf("the march %v ends with %v", m, end)
		}
	}
	if ends[impl.HitMiss] < 100 || ends[impl.HitSurface] < 100 || ends[impl.HitGiven] < 100 {
		t.Errorf("the marches ended with %v", ends)
	}
}

// TestMarchesStayBeforeSurfaces looks at points of the way up to where a ray has ended.
func TestMarchesStayBeforeSurfaces(t *testing.T) {
	r := rand.New(rand.NewSource(27))
	hits := 0
	for i := range 3000 {
		s := randomShape(r, 1+i%impl.MaxNodes, kindRows())
		from, m := randomRay(r), randomMarch(r)
		hit, _ := impl.MarchRay(s, from, m)
		if hit.Kind == impl.HitSurface {
			hits++
			if d, _ := impl.DistanceAt(s, hit.Place); !(d < m.Near) {
				t.Errorf("a hit of %v at the distance %v", s, d)
			}
		}
		// With a far of 0, the ray has begun where it has ended, maybe inside.
		if hit.Far == 0 {
			continue
		}
		factor, _ := impl.FactorOf(s)
		for range 20 {
			place, _ := impl.PlaceOn(from, hit.Far*r.Float32())
			// What rounding adds grows with the factor, as in chapter 2.
			if d, _ := impl.DistanceAt(s, place); d < -2e-4*max(1, factor) {
				t.Fatalf("the ray %v at %v has passed %v, which is at %v", from, s, place, d)
			}
		}
	}
	if hits < 500 {
		t.Errorf("only %d hits were looked at", hits)
	}
}

// TestSafeStepsAreSafe looks at points that are as near as told, in any direction.
func TestSafeStepsAreSafe(t *testing.T) {
	r := rand.New(rand.NewSource(28))
	for i := range 3000 {
		s := randomShape(r, 1+i%impl.MaxNodes, kindRows())
		p := randomPoint(r, 4)
		step, _ := impl.SafeStep(s, p)
		factor, _ := impl.FactorOf(s)
		far := float32(math.Abs(float64(step)))
		for range 10 {
			q := impl.AddVectors(p, impl.ScaleVector(impl.UnitOf(randomPoint(r, 1)), far*r.Float32()))
			d, _ := impl.DistanceAt(s, q)
			if d*float32(math.Copysign(1, float64(step))) < -3e-4*max(1, factor) {
				t.Fatalf("%v has the distance %v at %v, though no surface is nearer to %v than %v", s, d, q, p, far)
			}
		}
	}
}

// segmentDistance returns how near the way from p to q comes to the origin.
func segmentDistance(p, q impl.Vector) float64 {
	a := [3]float64{float64(p.X), float64(p.Y), float64(p.Z)}
	b := [3]float64{float64(q.X), float64(q.Y), float64(q.Z)}
	inner, long := 0.0, 0.0
	for i := range a {
		inner -= a[i] * (b[i] - a[i])
		long += (b[i] - a[i]) * (b[i] - a[i])
	}
	share := min(max(inner/long, 0), 1)
	near := 0.0
	for i := range a {
		at := a[i] + share*(b[i]-a[i])
		near += at * at
	}
	return math.Sqrt(near)
}

// TestShadowsOfBalls compares with the way from the point to the light, and leaves out those that pass very near to
// the ball, which decide by Near, or by the steps.
func TestShadowsOfBalls(t *testing.T) {
	r := rand.New(rand.NewSource(29))
	count := map[bool]int{}
	for range 5000 {
		p, light := randomPoint(r, 4), randomPoint(r, 4)
		near := segmentDistance(p, light)
		if math.Abs(near-1) < 0.05 {
			continue
		}
		dark, ok := impl.InShadow(shape(ball(1)), p, impl.Vector{}, light, march(1.0/1024, 64, 64))
		equal(t, "InShadow succeeds", ok, true)
		equal(t, fmt.Sprint("the shadow at ", p, " from ", light), dark, near < 1)
		count[dark]++
	}
	if count[true] < 500 || count[false] < 500 {
		t.Errorf("shadows: %v", count)
	}
}

// TestShadowsAreThrownBeforeTheLight checks, for shapes of all kinds, that what is hit is not behind the light, nor
// farther than Most, and that light and Most can be moved there without a change.
func TestShadowsAreThrownBeforeTheLight(t *testing.T) {
	r := rand.New(rand.NewSource(30))
	darks := 0
	for i := range 3000 {
		s := randomShape(r, 1+i%impl.MaxNodes, kindRows())
		p, normal, light, m := randomPoint(r, 4), randomPoint(r, 1), randomPoint(r, 5), randomMarch(r)
		dark, ok := impl.InShadow(s, p, normal, light, m)
		equal(t, "InShadow succeeds", ok, true)
		from := impl.AddVectors(p, impl.ScaleVector(normal, 2*m.Near))
		way := impl.LessVectors(light, from)
		hit, _ := impl.MarchRay(s, ray(from, way), m)
		before := hit.Kind == impl.HitSurface && hit.Far <= impl.LongOf(way)
		equal(t, fmt.Sprint("the shadow of ", s), dark, before)
		if dark {
			darks++
		}
	}
	if darks < 300 {
		t.Errorf("only %d shadows were looked at", darks)
	}
}

// resultsOfMarches writes down what the functions of the chapter return, bit for bit.
func resultsOfMarches(s impl.Shape, a, b impl.Vector, x, y float32, n int64, list []float32) string {
	var out strings.Builder
	numbers := func(list ...float32) {
		for _, x := range list {
			fmt.Fprintf(&out, "%08x ", bitsOf(x))
		}
	}
	vector := func(v impl.Vector, ok bool) {
		numbers(v.X, v.Y, v.Z)
		fmt.Fprint(&out, ok)
	}
	number := func(x float32, ok bool) {
		numbers(x)
		fmt.Fprint(&out, ok)
	}
	r, m := ray(a, b), march(x, y, n)
	vector(impl.UnitOf(a), impl.ValidRay(r))
	vector(impl.PlaceOn(r, x))
	number(impl.SafeStep(s, a))
	hit, ok := impl.MarchRay(s, r, m)
	fmt.Fprint(&out, hit.Kind, hit.Steps, impl.ValidMarch(m))
	vector(hit.Place, ok)
	number(hit.Far, ok)
	vector(impl.NormalAt(s, a, x))
	fmt.Fprint(&out, fmt.Sprint(impl.InShadow(s, a, b, vec(y, 1, x), m)), fmt.Sprint(impl.SignChanges(list)))
	number(impl.AmbientAt(s, a, b, x, n))
	line, ok := impl.ProbeLine(s, a, b, n)
	numbers(line...)
	fmt.Fprint(&out, ok)
	first, second, ok := impl.CrossingAt(s, a, b, n)
	vector(first, ok)
	vector(second, ok)
	return out.String()
}

// TestMarchesReturnEqualResults calls every function of the chapter with all sorts of arguments, twice.
func TestMarchesReturnEqualResults(t *testing.T) {
	vectors, numbers, shapes := manyVectors(100), manyNumbers(100), someShapes()
	integers := []int64{0, 1, 2, 8, 9, 60, 61, 64, 65, 100, 101, -1, 256, 257, 1 << 32, 1<<32 + 1, math.MaxInt64, math.MinInt64}
	for i, s := range shapes {
		for j, n := range integers {
			for k := range 20 {
				at := i*31 + j*7 + k*13
				a, b := vectors[at%len(vectors)], vectors[(at*5+3)%len(vectors)]
				x, y := numbers[(at*3+1)%len(numbers)], numbers[(at*11+2)%len(numbers)]
				if k%2 == 0 {
					x, y = 0.0625, 8
				}
				if k%4 == 0 {
					a, b = vec(-3, 0.5, 0.25), vec(3, float32(k)/8, 0)
				}
				list := filled(lengthOf(n), x)
				first := resultsOfMarches(s, a, b, x, y, n, list)
				equal(t, "functions of marches", resultsOfMarches(copyShape(s), a, b, x, y, n, list), first)
			}
		}
		equal(t, "functions of marches", resultsOfMarches(s, vec(1, 2, 3), vec(3, 2, 1), 1, 2, 3, nil), resultsOfMarches(s, vec(1, 2, 3), vec(3, 2, 1), 1, 2, 3, []float32{}))
	}
}

// lengthOf makes a length of any number.
func lengthOf(n int64) int { return int(uint64(n) % 300) }

func TestMarchesChangeNothing(t *testing.T) {
	for _, row := range kindRows() {
		for _, s := range []impl.Shape{underRow(row, 0, row.numbers), chain(16), shape(ball(-1))} {
			given, kept := roomy(s)
			list := filled(300, -1)
			for i := range list {
				list[i] = float32(i%3) - 1
			}
			resultsOfMarches(given, vec(-4, 0, 0), vec(0.5, 0, 0), 0.125, 16, 8, list[:200])
			equal(t, "the shape is as it was", kept(), true)
			for i, x := range list {
				same(t, "a number of the list", x, float32(i%3)-1)
			}
		}
	}
}

// TestListsOfLinesAreNew changes what was returned, which must not change what is returned later.
func TestListsOfLinesAreNew(t *testing.T) {
	s := shape(ball(1))
	first, _ := impl.ProbeLine(s, vec(0, 0, 0), vec(2, 0, 0), 2)
	second, _ := impl.ProbeLine(s, vec(0, 0, 0), vec(2, 0, 0), 2)
	clear(first[:cap(first)])
	third, _ := impl.ProbeLine(s, vec(0, 0, 0), vec(2, 0, 0), 2)
	sameList(t, "distances returned before", second, []float32{-1, 0, 1})
	sameList(t, "distances returned later", third, []float32{-1, 0, 1})
	list := []float32{-1, 0, 1, -2}
	changes, _ := impl.SignChanges(list)
	before, _ := impl.SignChanges(list)
	clear(changes[:cap(changes)])
	later, _ := impl.SignChanges(list)
	equal(t, "changes returned before", fmt.Sprint(before), "[0 2]")
	equal(t, "changes returned later", fmt.Sprint(later), "[0 2]")
	sameList(t, "the list", list, []float32{-1, 0, 1, -2})
}
