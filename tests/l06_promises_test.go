package tests

import (
	"fmt"
	"maps"
	"math/rand"
	"slices"
	"strings"
	"testing"

	"loop.example/g01193/impl"
)

// TestExamplesOfChapter6 asserts the example at the end of the chapter.
func TestExamplesOfChapter6(t *testing.T) {
	s, ok := impl.OneNode(impl.NodeBall, []float32{1})
	equal(t, "the ball is there", ok, true)
	g, ok := impl.FillGrid(s, vec(-1, -1, -1), 1, 3, 3, 3)
	equal(t, "the grid is filled", ok, true)
	inside, ok := impl.CountInside(g)
	equal(t, "CountInside succeeds", ok, true)
	equal(t, "points inside", inside, 1)
	crossed, ok := impl.EdgesCrossed(g)
	equal(t, "EdgesCrossed succeeds", ok, true)
	equal(t, "crossings", crossed, 6)
	value, ok := impl.ValueBetween(g, vec(0.5, 0, 0))
	succeeds(t, "its value between", value, ok, -0.5)
}

// TestGridsReadAtTheirPoints is the first part of the promise of the chapter, where nothing is rounded.
func TestGridsReadAtTheirPoints(t *testing.T) {
	r := rand.New(rand.NewSource(64))
	for range 300 {
		g := wholeGrid(r)
		for z := range g.Z {
			for y := range g.Y {
				for x := range g.X {
					p, ok := impl.GridPoint(g, x, y, z)
					equal(t, "GridPoint succeeds", ok, true)
					want, ok := impl.GridValue(g, x, y, z)
					equal(t, "GridValue succeeds", ok, true)
					got, ok := impl.ValueBetween(g, p)
					if !ok || got != want {
						t.Fatalf("the value at %d, %d, %d of %v is %v, but %v at %v", x, y, z, g, want, got, p)
					}
				}
			}
		}
	}
}

// TestValuesBetweenAreBetween checks that what is read lies between the least and the greatest value, but for rounding,
// and that it is continuous over the borders of cells.
func TestValuesBetweenAreBetween(t *testing.T) {
	r := rand.New(rand.NewSource(65))
	for range 300 {
		g := randomGrid(r)
		least, most := slices.Min(g.Values), slices.Max(g.Values)
		for range 20 {
			place := at{r.Int63n(g.X), r.Int63n(g.Y), r.Int63n(g.Z)}
			p, ok := impl.GridPoint(g, place[0], place[1], place[2])
			equal(t, "GridPoint succeeds", ok, true)
			near := toldAdd(p, toldTimes(randomPoint(r, 1e-4), g.Step))
			value, _ := impl.GridValue(g, place[0], place[1], place[2])
			got, ok := impl.ValueBetween(g, near)
			if !ok || toldSize(got-value) > 0.02 {
				t.Fatalf("the value at %v of %v is %v, but %v near it", p, g, value, got)
			}
			far := toldAdd(p, randomPoint(r, 3))
			got, ok = impl.ValueBetween(g, far)
			if !ok || got < least-1e-4 || got > most+1e-4 {
				t.Fatalf("the value at %v of %v is %v", far, g, got)
			}
		}
	}
}

// TestSlopesOfPlanes checks that the slope of a plane is its normal, away from borders.
func TestSlopesOfPlanes(t *testing.T) {
	r := rand.New(rand.NewSource(66))
	for range 300 {
		normal := vec(float32(r.Intn(9)-4), float32(r.Intn(9)-4), float32(r.Intn(9)-4))
		g, ok := impl.FillGrid(shape(plane(normal.X, normal.Y, normal.Z, float32(r.Intn(5)))), vec(-2, -1, -3), 0.5, 6, 5, 7)
		equal(t, "FillGrid succeeds", ok, true)
		p, ok := impl.GridPoint(g, 1+r.Int63n(4), 1+r.Int63n(3), 1+r.Int63n(5))
		equal(t, "GridPoint succeeds", ok, true)
		got, ok := impl.SlopeBetween(g, p)
		equal(t, "SlopeBetween succeeds", ok, true)
		equal(t, "the slope is the normal", got, normal)
	}
}

// TestJoinsAreThoseOfShapes checks that joining grids and joining their shapes is the same, bit for bit.
func TestJoinsAreThoseOfShapes(t *testing.T) {
	r := rand.New(rand.NewSource(67))
	for i := range 200 {
		a, b, like := randomShape(r, 1+i%7, kindRows()), randomShape(r, 1+i%5, kindRows()), randomGrid(r)
		fill := func(s impl.Shape) impl.Grid {
			g, ok := impl.FillGrid(s, like.Low, like.Step, like.X, like.Y, like.Z)
			equal(t, "FillGrid succeeds", ok, true)
			return g
		}
		for _, kind := range []int64{impl.NodeUnion, impl.NodeCut, impl.NodeLess} {
			both, ok := impl.JoinShapes(kind, a, b, nil)
			equal(t, "JoinShapes succeeds", ok, true)
			joined, ok := impl.JoinGrids(kind, fill(a), fill(b))
			makesGrid(t, fmt.Sprint("the kind ", kind), joined, ok, fill(both))
		}
		half, ok := impl.HalveGrid(fill(a))
		like.Step, like.X, like.Y, like.Z = like.Step*2, (like.X+1)/2, (like.Y+1)/2, (like.Z+1)/2
		makesGrid(t, "half of a filled grid", half, ok, fill(a))
	}
}

// TestPartsHaveTheValues reads each point of a part in the grid that it was taken of.
func TestPartsHaveTheValues(t *testing.T) {
	r := rand.New(rand.NewSource(68))
	for range 200 {
		g := wholeGrid(r)
		var from, counts []int64
		for _, count := range []int64{g.X, g.Y, g.Z} {
			first := r.Int63n(count)
			from, counts = append(from, first), append(counts, 1+r.Int63n(count-first))
		}
		part, ok := impl.CropGrid(g, from, counts)
		equal(t, "CropGrid succeeds", ok, true)
		for z := range counts[2] {
			for y := range counts[1] {
				for x := range counts[0] {
					want, _ := impl.GridValue(g, from[0]+x, from[1]+y, from[2]+z)
					got, ok := impl.GridValue(part, x, y, z)
					succeeds(t, "a value of the part", got, ok, want)
					place, _ := impl.GridPoint(g, from[0]+x, from[1]+y, from[2]+z)
					at, _ := impl.GridPoint(part, x, y, z)
					equal(t, "a point of the part", at, place)
				}
			}
		}
	}
}

// TestSweepsAreDistances compares what is left behind all sweeps with the way along the grid from each other point.
func TestSweepsAreDistances(t *testing.T) {
	r := rand.New(rand.NewSource(69))
	for range 60 {
		g := wholeGrid(r)
		spread, count, ok := impl.SpreadGrid(g)
		equal(t, "SpreadGrid succeeds", ok, true)
		equal(t, "without walls, there are two sweeps at most", count <= 2, true)
		order, _ := toldAll(g)
		for i, p := range order {
			want := g.Values[i]
			for j, q := range order {
				steps := int64(0)
				for axis := range p {
					steps += max(p[axis]-q[axis], q[axis]-p[axis])
				}
				want = min(want, g.Values[j]+float32(steps)*g.Step)
			}
			same(t, "a distance along the grid", spread.Values[i], want)
		}
		again, count, ok := impl.SpreadGrid(spread)
		makesGrid(t, "a grid that is spread", again, ok, spread)
		equal(t, "sweeps of a grid that is spread", count, 0)
	}
}

// TestPartsAreApart checks that neighbours inside have the same part, and that parts are numbered in order.
func TestPartsAreApart(t *testing.T) {
	r := rand.New(rand.NewSource(70))
	for range 200 {
		g := wholeGrid(r)
		parts, count, ok := impl.PartsInside(g)
		equal(t, "PartsInside succeeds", ok, true)
		equal(t, "parts", len(parts), len(g.Values))
		next := int64(0)
		order, _ := toldAll(g)
		for i, p := range order {
			equal(t, "a point inside has a part", parts[i] >= 0, g.Values[i] < 0)
			equal(t, "a part is one before or the next one", parts[i] <= next, true)
			next = max(next, parts[i]+1)
			for _, q := range toldBeside(p) {
				if j := slices.Index(order, q); j >= 0 && g.Values[i] < 0 && g.Values[j] < 0 {
					equal(t, "neighbours are in the same part", parts[i], parts[j])
				}
			}
		}
		equal(t, "the number of parts", count, next)
	}
}

// resultsOfGrids writes down what the functions of the chapter return, bit for bit.
func resultsOfGrids(s impl.Shape, a, b impl.Grid, p impl.Vector, i [3]int64, from, counts []int64) string {
	var out strings.Builder
	number := func(list ...float32) {
		for _, x := range list {
			fmt.Fprintf(&out, "%08x ", bitsOf(x))
		}
	}
	write := func(g impl.Grid, rest ...any) {
		number(g.Low.X, g.Low.Y, g.Low.Z, g.Step)
		fmt.Fprint(&out, g.X, g.Y, g.Z, len(g.Values), ":")
		number(g.Values...)
		fmt.Fprint(&out, rest...)
	}
	writeOne := func(g impl.Grid, ok bool) { write(g, ok) }
	vector := func(v impl.Vector, ok bool) {
		number(v.X, v.Y, v.Z)
		fmt.Fprint(&out, ok)
	}
	value := func(x float32, ok bool) {
		number(x)
		fmt.Fprint(&out, ok)
	}
	fmt.Fprint(&out, impl.ValidGrid(a), impl.SameGrid(a, b), impl.SameGrid(b, a))
	vector(impl.GridPoint(a, i[0], i[1], i[2]))
	value(impl.GridValue(a, i[0], i[1], i[2]))
	writeOne(impl.FillGrid(s, a.Low, a.Step, a.X, a.Y, i[2]))
	value(impl.ValueBetween(a, p))
	vector(impl.SlopeBetween(a, p))
	for _, kind := range []int64{impl.NodeUnion, impl.NodeCut, impl.NodeLess, i[0]} {
		writeOne(impl.JoinGrids(kind, a, b))
	}
	writeOne(impl.CropGrid(a, from, counts))
	writeOne(impl.HalveGrid(a))
	fmt.Fprint(&out, fmt.Sprint(impl.CountInside(a)), fmt.Sprint(impl.EdgesCrossed(a)), fmt.Sprint(impl.PartsInside(a)))
	value(impl.VolumeOf(a))
	writeOne(impl.SweepGrid(a, i[1]))
	spread, count, ok := impl.SpreadGrid(a)
	write(spread, count, ok)
	return out.String()
}

// someGrids has grids of all sizes, valid ones and others, of which some have the same points.
func someGrids() []impl.Grid {
	r := rand.New(rand.NewSource(71))
	var list []impl.Grid
	numbers := oddNumbers()
	for range 20 {
		g := oddGrid(r, numbers)
		other := copyGrid(g)
		slices.Reverse(other.Values)
		list = append(list, g, other)
	}
	for _, grids := range []map[string]impl.Grid{validGrids(), invalidGrids()} {
		for _, what := range slices.Sorted(maps.Keys(grids)) {
			list = append(list, grids[what])
		}
	}
	return list
}

// TestGridsReturnEqualResults calls every function of the chapter with all sorts of arguments, twice.
func TestGridsReturnEqualResults(t *testing.T) {
	grids, shapes, vectors, integers := someGrids(), someShapes(), manyVectors(100), oddCounts()
	for i, a := range grids {
		for j := range 30 {
			s, b, p := shapes[(i+j)%len(shapes)], grids[(i+j)%len(grids)], vectors[(i*31+j)%len(vectors)]
			pick := func(k int) int64 { return integers[(i+j*5+k*k)%len(integers)] }
			from, counts := []int64{0, 0, pick(3)}, []int64{pick(4), 1, 1, 1}[:3+j/29]
			index := [3]int64{pick(0), pick(1), pick(2)}
			first := resultsOfGrids(s, a, b, p, index, from, counts)
			equal(t, "functions of grids", resultsOfGrids(copyShape(s), copyGrid(a), copyGrid(b), p, index, slices.Clone(from), slices.Clone(counts)), first)
		}
	}
	s := shape(ball(1))
	none, empty := impl.Grid{Step: 1}, impl.Grid{Step: 1, Values: []float32{}}
	equal(t, "functions of grids", resultsOfGrids(s, none, empty, vec(0, 0, 0), [3]int64{}, nil, nil), resultsOfGrids(s, empty, none, vec(0, 0, 0), [3]int64{}, []int64{}, []int64{}))
}

// roomyGrid returns a grid whose values stand in a greater array, and this array.
func roomyGrid(g impl.Grid) (impl.Grid, []float32) {
	whole := filled(len(g.Values)+50, 5)
	copy(whole[10:], g.Values)
	g.Values = whole[10 : 10+len(g.Values)]
	return g, whole
}

func TestGridsStayAsTheyAre(t *testing.T) {
	for what, g := range validGrids() {
		a, arrayA := roomyGrid(g)
		b, arrayB := roomyGrid(g)
		beforeA, beforeB := slices.Clone(arrayA), slices.Clone(arrayB)
		s, keptShape := roomy(chain(16))
		lists := []int64{0, 0, 0, 7, 7, 1, 1, 1, 7, 7}
		for sweeps := range int64(33) {
			resultsOfGrids(s, a, b, vec(0.5, 0.25, 0.125), [3]int64{0, sweeps, 1}, lists[0:3], lists[5:8])
		}
		sameList(t, what+", the array of values", arrayA, beforeA)
		sameList(t, what+", the array of the other values", arrayB, beforeB)
		equal(t, what+", the shape is as it was", keptShape(), true)
		equal(t, what+", the lists", fmt.Sprint(lists), "[0 0 0 7 7 1 1 1 7 7]")
	}
}

// TestGridsAreNew changes what was returned, which must not change what was given, nor what is returned later.
func TestGridsAreNew(t *testing.T) {
	s := shape(ball(2))
	for what, g := range validGrids() {
		kept := copyGrid(g)
		for name, call := range map[string]func() (impl.Grid, bool){
			"FillGrid":     func() (impl.Grid, bool) { return impl.FillGrid(s, g.Low, g.Step, g.X, g.Y, g.Z) },
			"JoinGrids":    func() (impl.Grid, bool) { return impl.JoinGrids(impl.NodeUnion, g, g) },
			"CropGrid":     func() (impl.Grid, bool) { return impl.CropGrid(g, []int64{0, 0, 0}, []int64{g.X, g.Y, g.Z}) },
			"HalveGrid":    func() (impl.Grid, bool) { return impl.HalveGrid(g) },
			"no sweep":     func() (impl.Grid, bool) { return impl.SweepGrid(g, 0) },
			"two sweeps":   func() (impl.Grid, bool) { return impl.SweepGrid(g, 2) },
			"SpreadGrid":   func() (impl.Grid, bool) { spread, _, ok := impl.SpreadGrid(g); return spread, ok },
			"all the same": func() (impl.Grid, bool) { spread, _, ok := impl.SpreadGrid(levelGrid(2, 2, 2, 1)); return spread, ok },
		} {
			first, ok := call()
			if !ok {
				equal(t, what+", the Step that cannot be doubled", g.Step == greatest && name == "HalveGrid", true)
				continue
			}
			second, _ := call()
			want := copyGrid(first)
			for i := range first.Values[:cap(first.Values)] {
				first.Values[:cap(first.Values)][i] = -77
			}
			third, _ := call()
			equal(t, what+", "+name+", the grid that was given", equalGrids(g, kept), true)
			equal(t, what+", "+name+", the grid that was returned before", equalGrids(second, want), true)
			equal(t, what+", "+name+", the grid that is returned later", equalGrids(third, want), true)
		}
		parts, _, _ := impl.PartsInside(g)
		before, _, _ := impl.PartsInside(g)
		clear(parts[:cap(parts)])
		later, _, _ := impl.PartsInside(g)
		equal(t, what+", parts", fmt.Sprint(before), fmt.Sprint(later))
	}
}
