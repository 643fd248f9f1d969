package tests

import (
	"fmt"
	"math"
	"math/rand"
	"slices"
	"testing"

	"loop.example/g01193/impl"
)

// These functions make and read grids once more, as the document tells it, with the operations of the second version of
// the chapters before.

// at is a point of a grid.
type at [3]int64

// toldAll returns all points in the order of their indices, with their values.
func toldAll(g impl.Grid) ([]at, map[at]float32) {
	var order []at
	values := map[at]float32{}
	for i, value := range g.Values {
		n := int64(i)
		p := at{n % g.X, n / g.X % g.Y, n / (g.X * g.Y)}
		order = append(order, p)
		values[p] = value
	}
	return order, values
}

func toldGridIsValid(g impl.Grid) bool {
	if !toldFinite(g.Low.X, g.Low.Y, g.Low.Z, g.Step) || g.Step <= 0 {
		return false
	}
	all := 1
	for _, count := range []int64{g.X, g.Y, g.Z} {
		if count < 1 || count > 16 {
			return false
		}
		all *= int(count)
	}
	return all <= 1024 && all == len(g.Values)
}

func toldGridPoint(low impl.Vector, step float32, p at) impl.Vector {
	return toldAdd(low, toldTimes(vec(float32(p[0]), float32(p[1]), float32(p[2])), step))
}

func toldFill(s impl.Shape, low impl.Vector, step float32, x, y, z int64) impl.Grid {
	g := grid(low, step, x, y, z)
	for k := range z {
		for j := range y {
			for i := range x {
				g.Values = append(g.Values, toldAt(s, toldGridPoint(low, step, at{i, j, k})))
			}
		}
	}
	return g
}

// toldBetweenValues goes down from Z to X, so that the values are combined along X first.
func toldBetweenValues(g impl.Grid, p impl.Vector) float32 {
	_, values := toldAll(g)
	counts, low := [3]int64{g.X, g.Y, g.Z}, [3]float32{g.Low.X, g.Low.Y, g.Low.Z}
	var below func(axis int, place at) float32
	below = func(axis int, place at) float32 {
		if axis < 0 {
			return values[place]
		}
		u := quotient(difference([3]float32{p.X, p.Y, p.Z}[axis], low[axis]), g.Step)
		if u < 0 {
			u = 0
		}
		if u > float32(counts[axis]-1) {
			u = float32(counts[axis] - 1)
		}
		i := int64(math.Floor(float64(u)))
		if i > counts[axis]-2 {
			i = counts[axis] - 2
		}
		if i < 0 {
			i = 0
		}
		f := difference(u, float32(i))
		place[axis] = i
		a := below(axis-1, place)
		if counts[axis] > 1 {
			place[axis] = i + 1
		}
		b := below(axis-1, place)
		return sum(a, product(f, difference(b, a)))
	}
	return below(2, at{})
}

func toldSlope(g impl.Grid, p impl.Vector) impl.Vector {
	var slope impl.Vector
	for axis := range 3 {
		ahead, behind := p, p
		*partOf(&ahead, axis) = sum(*partOf(&ahead, axis), g.Step)
		*partOf(&behind, axis) = difference(*partOf(&behind, axis), g.Step)
		*partOf(&slope, axis) = quotient(difference(toldBetweenValues(g, ahead), toldBetweenValues(g, behind)), product(2, g.Step))
	}
	return slope
}

func toldSlopeIsThere(g impl.Grid, p impl.Vector) bool {
	for axis := range 3 {
		x := *partOf(&p, axis)
		if !toldFinite(x, sum(x, g.Step), difference(x, g.Step)) {
			return false
		}
	}
	return true
}

func toldJoin(kind int64, a, b impl.Grid) impl.Grid {
	joined := copyGrid(a)
	for i := range joined.Values {
		joined.Values[i], _ = toldPair(node(kind, 0, 0), a.Values[i], b.Values[i])
	}
	return joined
}

// toldPicked returns the grid of those points that pick takes.
func toldPicked(g impl.Grid, low impl.Vector, step float32, pick func(p at) bool) impl.Grid {
	order, values := toldAll(g)
	picked := grid(low, step, 0, 0, 0)
	along := [3]map[int64]bool{{}, {}, {}}
	for _, p := range order {
		if pick(p) {
			picked.Values = append(picked.Values, values[p])
			for axis := range along {
				along[axis][p[axis]] = true
			}
		}
	}
	picked.X, picked.Y, picked.Z = int64(len(along[0])), int64(len(along[1])), int64(len(along[2]))
	return picked
}

func toldCrop(g impl.Grid, from, counts []int64) impl.Grid {
	low := toldGridPoint(g.Low, g.Step, at{from[0], from[1], from[2]})
	return toldPicked(g, low, g.Step, func(p at) bool {
		for axis, i := range p {
			if i < from[axis] || i >= from[axis]+counts[axis] {
				return false
			}
		}
		return true
	})
}

func toldCropIsThere(g impl.Grid, from, counts []int64) bool {
	if len(from) != 3 || len(counts) != 3 {
		return false
	}
	for axis, count := range []int64{g.X, g.Y, g.Z} {
		if from[axis] < 0 || from[axis] >= count || counts[axis] < 1 || counts[axis] > count-from[axis] {
			return false
		}
	}
	low := toldGridPoint(g.Low, g.Step, at{from[0], from[1], from[2]})
	return toldFinite(low.X, low.Y, low.Z)
}

func toldHalf(g impl.Grid) impl.Grid {
	return toldPicked(g, g.Low, product(g.Step, 2), func(p at) bool { return p[0]%2 == 0 && p[1]%2 == 0 && p[2]%2 == 0 })
}

// toldBeside returns the neighbours of a point, those with lesser indices first.
func toldBeside(p at) []at {
	return []at{{p[0], p[1], p[2] - 1}, {p[0], p[1] - 1, p[2]}, {p[0] - 1, p[1], p[2]}, {p[0] + 1, p[1], p[2]}, {p[0], p[1] + 1, p[2]}, {p[0], p[1], p[2] + 1}}
}

// toldSweeps makes at most so many sweeps, and returns how many of them have changed a value before one did not.
func toldSweeps(g impl.Grid, most int64) (impl.Grid, int64) {
	order, values := toldAll(g)
	changes := int64(0)
	for range most {
		changed := false
		for _, p := range order {
			for _, q := range toldBeside(p) {
				if v, isThere := values[q]; isThere && sum(v, g.Step) < values[p] {
					values[p] = sum(v, g.Step)
					changed = true
				}
			}
		}
		if !changed {
			break
		}
		changes++
		slices.Reverse(order)
	}
	swept := copyGrid(g)
	order, _ = toldAll(g)
	for i, p := range order {
		swept.Values[i] = values[p]
	}
	return swept, changes
}

// toldParts lets the least index of each part go from neighbour to neighbour until it is everywhere.
func toldParts(g impl.Grid) ([]int64, int64) {
	order, values := toldAll(g)
	least := map[at]int{}
	for i, p := range order {
		if values[p] < 0 {
			least[p] = i
		}
	}
	for changed := true; changed; {
		changed = false
		for p, i := range least {
			for _, q := range toldBeside(p) {
				if j, isThere := least[q]; isThere && j < i {
					i, changed = j, true
				}
			}
			least[p] = i
		}
	}
	var heads []int
	for i, p := range order {
		if j, isThere := least[p]; isThere && i == j {
			heads = append(heads, i)
		}
	}
	parts := []int64{}
	for _, p := range order {
		part := int64(-1)
		if j, isThere := least[p]; isThere {
			part = int64(slices.Index(heads, j))
		}
		parts = append(parts, part)
	}
	return parts, int64(len(heads))
}

func toldCounts(g impl.Grid) (inside, crossed int64) {
	order, values := toldAll(g)
	for _, p := range order {
		if values[p] < 0 {
			inside++
		}
		for _, q := range toldBeside(p)[3:] {
			if v, isThere := values[q]; isThere && (v < 0) != (values[p] < 0) {
				crossed++
			}
		}
	}
	return inside, crossed
}

func toldCubes(count int64, step float32) float32 {
	return product(product(product(float32(count), step), step), step)
}

// readsLikeTold checks what is read between the points of a grid.
func readsLikeTold(t *testing.T, g impl.Grid, p impl.Vector) {
	t.Helper()
	got, ok := impl.ValueBetween(g, p)
	if isThere := toldFinite(p.X, p.Y, p.Z); !isThere {
		fails(t, "ValueBetween", got, ok)
	} else if want := toldBetweenValues(g, p); !ok || bitsOf(got) != bitsOf(want) {
		t.Fatalf("at %v, %v has the value %v, %v, want %v", p, g, got, ok, want)
	}
	slope, ok := impl.SlopeBetween(g, p)
	if !toldSlopeIsThere(g, p) {
		fails(t, "SlopeBetween", slope, ok)
		return
	}
	want := toldSlope(g, p)
	equal(t, "SlopeBetween succeeds", ok, true)
	sameVector(t, fmt.Sprint("the slope of ", g, " at ", p), slope, want)
}

// wholeLikeTold checks what is made of a whole grid.
func wholeLikeTold(t *testing.T, g impl.Grid, sweeps int64) {
	t.Helper()
	equal(t, "the grid is valid", impl.ValidGrid(g) && toldGridIsValid(g), true)
	half, ok := impl.HalveGrid(g)
	if want := toldHalf(g); toldFinite(want.Step) {
		makesGrid(t, "HalveGrid", half, ok, want)
	} else {
		failsGrid(t, "HalveGrid", half, ok)
	}
	swept, ok := impl.SweepGrid(g, sweeps)
	want, _ := toldSweeps(g, sweeps)
	makesGrid(t, fmt.Sprint("SweepGrid ", sweeps), swept, ok, want)
	spread, count, ok := impl.SpreadGrid(g)
	if want, changes := toldSweeps(g, 33); changes <= 32 {
		makesGrid(t, "SpreadGrid", spread, ok, want)
		equal(t, "sweeps of SpreadGrid", count, changes)
	} else {
		failsGrid(t, "SpreadGrid", spread, ok)
		equal(t, "sweeps of SpreadGrid", count, 0)
	}
	parts, count, ok := impl.PartsInside(g)
	wantParts, wantCount := toldParts(g)
	equal(t, "PartsInside succeeds", ok, true)
	equal(t, "parts", fmt.Sprint(parts, count), fmt.Sprint(wantParts, wantCount))
	inside, crossed := toldCounts(g)
	count, ok = impl.CountInside(g)
	equal(t, "CountInside", fmt.Sprint(count, ok), fmt.Sprint(inside, true))
	count, ok = impl.EdgesCrossed(g)
	equal(t, "EdgesCrossed", fmt.Sprint(count, ok), fmt.Sprint(crossed, true))
	volume, ok := impl.VolumeOf(g)
	succeeds(t, "VolumeOf", volume, ok, toldCubes(inside, g.Step))
}

// joinsLikeTold checks joins and parts, also ones that there are not.
func joinsLikeTold(t *testing.T, r *rand.Rand, a, b impl.Grid) {
	t.Helper()
	for _, kind := range []int64{impl.NodeUnion, impl.NodeCut, impl.NodeLess} {
		joined, ok := impl.JoinGrids(kind, a, b)
		makesGrid(t, fmt.Sprint("JoinGrids of the kind ", kind), joined, ok, toldJoin(kind, a, b))
	}
	for range 6 {
		var from, counts []int64
		for _, count := range []int64{a.X, a.Y, a.Z} {
			i := r.Int63n(count)
			from, counts = append(from, i), append(counts, 1+r.Int63n(count-i))
		}
		if odd := oddCounts(); r.Intn(3) == 0 {
			[][]int64{from, counts}[r.Intn(2)][r.Intn(3)] = odd[r.Intn(len(odd))]
		}
		part, ok := impl.CropGrid(a, from, counts)
		if toldCropIsThere(a, from, counts) {
			makesGrid(t, fmt.Sprint("CropGrid from ", from, ", ", counts), part, ok, toldCrop(a, from, counts))
		} else {
			failsGrid(t, fmt.Sprint("CropGrid from ", from, ", ", counts), part, ok)
		}
	}
}

// placesNear returns places at points, between points, at borders and outside.
func placesNear(r *rand.Rand, g impl.Grid, odd []impl.Vector) []impl.Vector {
	var places []impl.Vector
	for range 6 {
		p := toldGridPoint(g.Low, g.Step, at{r.Int63n(g.X+2) - 1, r.Int63n(g.Y+2) - 1, r.Int63n(g.Z+2) - 1})
		q := toldAdd(p, toldTimes(randomPoint(r, 1), g.Step))
		o := odd[r.Intn(len(odd))]
		places = append(places, p, q, vec(p.X, q.Y, p.Z), vec(q.X, o.Y, p.Z), o)
	}
	return append(places, vec(minusZero, minusZero, minusZero), vec(0, 0, 0))
}

// TestGridsLikeTold compares all functions with what is told, for grids with numbers of all sizes.
func TestGridsLikeTold(t *testing.T) {
	r := rand.New(rand.NewSource(61))
	numbers, odd := manyNumbers(100), manyVectors(100)
	for i := range 900 {
		var g impl.Grid
		switch i % 3 {
		case 0:
			g = randomGrid(r)
		case 1:
			g = wholeGrid(r)
		default:
			g = oddGrid(r, numbers)
		}
		for _, p := range placesNear(r, g, odd) {
			readsLikeTold(t, g, p)
		}
		wholeLikeTold(t, g, int64(i%33))
		other := copyGrid(g)
		r.Shuffle(len(other.Values), func(i, j int) { other.Values[i], other.Values[j] = other.Values[j], other.Values[i] })
		joinsLikeTold(t, r, g, other)
	}
}

// TestFilledGridsLikeTold compares the values of grids of shapes.
func TestFilledGridsLikeTold(t *testing.T) {
	r := rand.New(rand.NewSource(62))
	numbers := oddNumbers()
	for i := range 300 {
		s := randomShape(r, 1+i%impl.MaxNodes, kindRows())
		if i%3 == 1 {
			s = oddShape(r, s, numbers)
		}
		like := randomGrid(r)
		if i%4 == 1 {
			like = oddGrid(r, numbers)
		}
		g, ok := impl.FillGrid(s, like.Low, like.Step, like.X, like.Y, like.Z)
		makesGrid(t, fmt.Sprint("FillGrid of ", s), g, ok, toldFill(s, like.Low, like.Step, like.X, like.Y, like.Z))
		for z := range g.Z {
			place, ok := impl.GridPoint(g, g.X-1, z%g.Y, z)
			equal(t, "GridPoint succeeds", ok, true)
			sameVector(t, "GridPoint", place, toldGridPoint(g.Low, g.Step, at{g.X - 1, z % g.Y, z}))
		}
	}
}

// TestDamagedGridsLikeTold changes one or two things of a grid to what they can be elsewhere, or to nothing that there is.
func TestDamagedGridsLikeTold(t *testing.T) {
	r := rand.New(rand.NewSource(63))
	numbers := oddNumbers()
	valid, invalid := 0, 0
	for range 6000 {
		g := randomGrid(r)
		g.Values = g.Values[:min(len(g.Values), 64)]
		if len(g.Values) != int(g.X*g.Y*g.Z) {
			g.X, g.Y, g.Z = 4, 4, 4
		}
		for range 1 + r.Intn(2) {
			switch i := r.Intn(10); {
			case i < 3:
				*countOf(&g, i) = append(oddCounts(), 4, 8)[r.Intn(len(oddCounts())+2)]
			case i < 6:
				*partOf(&g.Low, i-3) = numbers[r.Intn(len(numbers))]
			case i == 6:
				g.Step = numbers[r.Intn(len(numbers))]
			case i == 7:
				g.Values = g.Values[:r.Intn(len(g.Values)+1)]
			case i == 8:
				g.X, g.Y, g.Z = g.Y, g.Z, g.X
			default:
				g.Values = append(copyGrid(g).Values, g.Values...)
			}
		}
		want := toldGridIsValid(g)
		equal(t, fmt.Sprint(g, " is valid"), impl.ValidGrid(g), want)
		if want {
			valid++
		} else {
			invalid++
			refusedByGridFunctions(t, fmt.Sprint(g), g)
		}
	}
	if valid < 1000 || invalid < 1000 {
		t.Errorf("only %d grids that are valid, and %d that are not", valid, invalid)
	}
}
