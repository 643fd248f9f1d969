package tests

import (
	"fmt"
	"math"
	"math/rand"
	"slices"
	"testing"

	"loop.example/g01193/impl"
)

// These functions make and measure meshes once more, as the document tells it, with the operations of the second version
// of the chapters before.

// toldQuarter has the corners of a quarter of a cell.
type toldQuarter struct {
	corners [4]int
	turned  bool
}

func toldQuarters() []toldQuarter {
	return []toldQuarter{
		{[4]int{0, 1, 3, 7}, false},
		{[4]int{0, 1, 5, 7}, true},
		{[4]int{0, 2, 3, 7}, true},
		{[4]int{0, 2, 6, 7}, false},
		{[4]int{0, 4, 5, 7}, false},
		{[4]int{0, 4, 6, 7}, true},
	}
}

// toldTriangles has the edges of the triangles for each way in which positions can be inside, written out by hand.
func toldTriangles() map[string][][3]string {
	return map[string][][3]string{
		"":     nil,
		"0":    {{"01", "02", "03"}},
		"1":    {{"10", "13", "12"}},
		"2":    {{"20", "21", "23"}},
		"3":    {{"30", "32", "31"}},
		"01":   {{"02", "03", "13"}, {"02", "13", "12"}},
		"02":   {{"03", "01", "21"}, {"03", "21", "23"}},
		"03":   {{"01", "02", "32"}, {"01", "32", "31"}},
		"12":   {{"10", "13", "23"}, {"10", "23", "20"}},
		"13":   {{"12", "10", "30"}, {"12", "30", "32"}},
		"23":   {{"20", "21", "31"}, {"20", "31", "30"}},
		"123":  {{"01", "03", "02"}},
		"023":  {{"10", "12", "13"}},
		"013":  {{"20", "23", "21"}},
		"012":  {{"30", "31", "32"}},
		"0123": nil,
	}
}

// toldCorner returns a corner of the cell that begins at a point.
func toldCorner(p at, corner int) at {
	return at{p[0] + int64(corner%2), p[1] + int64(corner/2%2), p[2] + int64(corner/4)}
}

func toldMesh(g impl.Grid) impl.Mesh {
	order, values := toldAll(g)
	m := impl.Mesh{}
	made := map[[2]at]int64{}
	placeAt := func(p, q at) int64 {
		index, isMade := made[[2]at{p, q}]
		if !isMade {
			index = int64(len(m.Places))
			made[[2]at{p, q}] = index
			a, b := values[p], values[q]
			share := quotient(a, difference(a, b))
			m.Places = append(m.Places, toldBetween(toldGridPoint(g.Low, g.Step, p), toldGridPoint(g.Low, g.Step, q), share))
		}
		return index
	}
	for _, p := range order {
		if _, isCell := values[toldCorner(p, 7)]; !isCell {
			continue
		}
		for _, quarter := range toldQuarters() {
			inside := ""
			for position, corner := range quarter.corners {
				if values[toldCorner(p, corner)] < 0 {
					inside += fmt.Sprint(position)
				}
			}
			for _, edges := range toldTriangles()[inside] {
				var triangle []int64
				for _, ends := range edges {
					i, j := quarter.corners[ends[0]-'0'], quarter.corners[ends[1]-'0']
					triangle = append(triangle, placeAt(toldCorner(p, min(i, j)), toldCorner(p, max(i, j))))
				}
				if quarter.turned {
					triangle[1], triangle[2] = triangle[2], triangle[1]
				}
				m.Triangles = append(m.Triangles, triangle)
			}
		}
	}
	return m
}

func toldMeshIsValid(m impl.Mesh) bool {
	if len(m.Places) > 8192 || len(m.Triangles) > 9000 {
		return false
	}
	for _, triangle := range m.Triangles {
		seen := map[int64]bool{}
		for _, index := range triangle {
			seen[index] = index >= 0 && index < int64(len(m.Places))
		}
		if len(triangle) != 3 || len(seen) != 3 {
			return false
		}
		for _, isThere := range seen {
			if !isThere {
				return false
			}
		}
	}
	return true
}

// toldEdges returns how often triangles go from one place to another one.
func toldEdges(m impl.Mesh) map[[2]int64]int {
	edges := map[[2]int64]int{}
	for _, triangle := range m.Triangles {
		for k, from := range triangle {
			edges[[2]int64{from, triangle[(k+1)%3]}]++
		}
	}
	return edges
}

func toldOpen(m impl.Mesh) int64 {
	edges, open := toldEdges(m), 0
	for ends, count := range edges {
		if edges[[2]int64{ends[1], ends[0]}] < count {
			open++
		}
	}
	return int64(open)
}

func toldUsed(m impl.Mesh) []int64 {
	used := slices.Concat(m.Triangles...)
	slices.Sort(used)
	return slices.Compact(used)
}

func toldEuler(m impl.Mesh) int64 {
	edges := toldEdges(m)
	pairs := 0
	for ends := range edges {
		if edges[[2]int64{ends[1], ends[0]}] == 0 || ends[0] < ends[1] {
			pairs++
		}
	}
	return int64(len(toldUsed(m)) - pairs + len(m.Triangles))
}

// toldPieces lets the least index of each piece go along the triangles until it is everywhere.
func toldPieces(m impl.Mesh) ([]int64, int64) {
	least := map[int64]int64{}
	for _, place := range toldUsed(m) {
		least[place] = place
	}
	for changed := true; changed; {
		changed = false
		for _, t := range m.Triangles {
			lowest := min(least[t[0]], least[t[1]], least[t[2]])
			for _, place := range t {
				changed = changed || least[place] != lowest
				least[place] = lowest
			}
		}
	}
	pieces := slices.Repeat([]int64{-1}, len(m.Places))
	numbers := map[int64]int64{}
	for _, place := range toldUsed(m) {
		head := least[place]
		if head == place {
			numbers[head] = int64(len(numbers))
		}
		pieces[place] = numbers[head]
	}
	return pieces, int64(len(numbers))
}

// toldCross returns the cross in 32-bit numbers.
func toldCross(a, b impl.Vector) impl.Vector {
	return vec(
		difference(product(a.Y, b.Z), product(a.Z, b.Y)),
		difference(product(a.Z, b.X), product(a.X, b.Z)),
		difference(product(a.X, b.Y), product(a.Y, b.X)),
	)
}

func toldInner(a, b impl.Vector) float32 {
	return sum(sum(product(a.X, b.X), product(a.Y, b.Y)), product(a.Z, b.Z))
}

func toldNormals(m impl.Mesh) []impl.Vector {
	crosses := map[int64][]impl.Vector{}
	for _, t := range m.Triangles {
		a, b, c := m.Places[t[0]], m.Places[t[1]], m.Places[t[2]]
		for _, place := range t {
			crosses[place] = append(crosses[place], toldCross(toldTake(b, a), toldTake(c, a)))
		}
	}
	var normals []impl.Vector
	for place := range m.Places {
		var all impl.Vector
		for _, cross := range crosses[int64(place)] {
			all = toldAdd(all, cross)
		}
		normals = append(normals, toldUnit(all))
	}
	return normals
}

// wideVector has 64-bit numbers that are rounded on their own.
type wideVector [3]wide

func wideVectorOf(v impl.Vector) wideVector {
	return wideVector{wideOf(float64(v.X)), wideOf(float64(v.Y)), wideOf(float64(v.Z))}
}

func (v wideVector) minus(w wideVector) wideVector {
	return wideVector{v[0].minus(w[0]), v[1].minus(w[1]), v[2].minus(w[2])}
}

func (v wideVector) cross(w wideVector) wideVector {
	return wideVector{
		v[1].times(w[2]).minus(v[2].times(w[1])),
		v[2].times(w[0]).minus(v[0].times(w[2])),
		v[0].times(w[1]).minus(v[1].times(w[0])),
	}
}

func (v wideVector) inner(w wideVector) wide {
	return v[0].times(w[0]).plus(v[1].times(w[1])).plus(v[2].times(w[2]))
}

// toldMeasures returns the area and the volume of a mesh all of whose used places are finite.
func toldMeasures(m impl.Mesh) (float32, float32) {
	area, volume := wideOf(0), wideOf(0)
	for _, t := range m.Triangles {
		a, b, c := wideVectorOf(m.Places[t[0]]), wideVectorOf(m.Places[t[1]]), wideVectorOf(m.Places[t[2]])
		w := b.minus(a).cross(c.minus(a))
		area = area.plus(w.inner(w).root())
		volume = volume.plus(a.inner(b.cross(c)))
	}
	return area.by(wideOf(2)).narrow(), volume.by(wideOf(6)).narrow()
}

// toldOddMeasures returns the same for all places; it has products of 64-bit numbers that only a conversion keeps from being
// made together with a sum.
func toldOddMeasures(m impl.Mesh) (float32, float32) {
	times := func(a, b float64) float64 { return float64(a * b) }
	cross := func(v, w [3]float64) [3]float64 {
		return [3]float64{
			times(v[1], w[2]) - times(v[2], w[1]),
			times(v[2], w[0]) - times(v[0], w[2]),
			times(v[0], w[1]) - times(v[1], w[0]),
		}
	}
	inner := func(v, w [3]float64) float64 { return times(v[0], w[0]) + times(v[1], w[1]) + times(v[2], w[2]) }
	area, volume := 0.0, 0.0
	for _, t := range m.Triangles {
		var p [3][3]float64
		for i, index := range t {
			at := m.Places[index]
			p[i] = [3]float64{float64(at.X), float64(at.Y), float64(at.Z)}
		}
		var u, v [3]float64
		for axis := range 3 {
			u[axis], v[axis] = p[1][axis]-p[0][axis], p[2][axis]-p[0][axis]
		}
		area += math.Sqrt(inner(cross(u, v), cross(u, v)))
		volume += inner(p[0], cross(p[1], p[2]))
	}
	return float32(area / 2), float32(volume / 6)
}

func toldFlipped(m impl.Mesh) impl.Mesh {
	m = copyMesh(m)
	for _, t := range m.Triangles {
		t[1], t[2] = t[2], t[1]
	}
	return m
}

func toldTrimmed(m impl.Mesh) impl.Mesh {
	used := toldUsed(m)
	trimmed := copyMesh(m)
	trimmed.Places = nil
	for _, place := range used {
		trimmed.Places = append(trimmed.Places, m.Places[place])
	}
	for _, t := range trimmed.Triangles {
		for i, place := range t {
			t[i] = int64(slices.Index(used, place))
		}
	}
	return trimmed
}

func toldMeshText(m impl.Mesh) string {
	text := ""
	for _, p := range m.Places {
		text += fmt.Sprintf("v %08x,%08x,%08x\n", bitsOf(p.X), bitsOf(p.Y), bitsOf(p.Z))
	}
	for _, t := range m.Triangles {
		text += fmt.Sprintf("f %d,%d,%d\n", t[0], t[1], t[2])
	}
	return text
}

// meshLikeTold checks all that is told of a mesh.
func meshLikeTold(t *testing.T, m impl.Mesh) {
	t.Helper()
	equal(t, "the mesh is valid", impl.ValidMesh(m) && toldMeshIsValid(m), true)
	flipped, ok := impl.FlipMesh(m)
	makesMesh(t, "FlipMesh", flipped, ok, toldFlipped(m))
	openIs(t, "a mesh", m, toldOpen(m))
	eulerIs(t, "a mesh", m, toldEuler(m))
	pieces, count := toldPieces(m)
	piecesAre(t, "a mesh", m, count, pieces...)
	normalsAre(t, "a mesh", m, toldNormals(m)...)
	used, ok := impl.UsedPlaces(m)
	equal(t, "UsedPlaces succeeds", ok, true)
	equal(t, "UsedPlaces", fmt.Sprint(used), fmt.Sprint(toldUsed(m)))
	trimmed, ok := impl.TrimMesh(m)
	makesMesh(t, "TrimMesh", trimmed, ok, toldTrimmed(m))
	area, volume := toldOddMeasures(m)
	areaIs(t, "a mesh", m, area)
	volumeIs(t, "a mesh", m, volume)
	isFinite := true
	for _, place := range used {
		isFinite = isFinite && toldFinite(m.Places[place].X, m.Places[place].Y, m.Places[place].Z)
	}
	if isFinite {
		area, volume := toldMeasures(m)
		areaIs(t, "a finite mesh", m, area)
		volumeIs(t, "a finite mesh", m, volume)
	}
	text, ok := impl.MeshText(m)
	if len(m.Places) > 100 || len(m.Triangles) > 200 {
		fails(t, "MeshText", text, ok)
	} else {
		equal(t, "MeshText succeeds", ok, true)
		equal(t, "MeshText", text, toldMeshText(m))
	}
}

// TestMeshesLikeTold compares all functions with what is told, for meshes with numbers of all sizes.
func TestMeshesLikeTold(t *testing.T) {
	r := rand.New(rand.NewSource(72))
	numbers := manyNumbers(100)
	for i := range 3000 {
		if i%2 == 0 {
			meshLikeTold(t, randomMesh(r))
		} else {
			meshLikeTold(t, oddMesh(r, numbers))
		}
	}
	for _, m := range validMeshes() {
		meshLikeTold(t, m)
	}
}

// TestFlatMeshesLikeTold has triangles of which there is little left but what has been rounded: with two places that are
// nearly or just the same, on a line, or in a plane with 0, 0, 0.
func TestFlatMeshesLikeTold(t *testing.T) {
	r := rand.New(rand.NewSource(80))
	for range 2000 {
		a, b, by := randomPoint(r, 4), toldTimes(randomPoint(r, 4), 1e-4), r.Float32()*4-2
		for _, c := range []impl.Vector{a, b, toldTimes(a, by), toldTimes(b, by), toldBetween(a, b, by), toldAdd(a, b), toldAdd(a, toldTimes(randomPoint(r, 1), 1e-7))} {
			for _, triangle := range [][]int64{{0, 1, 2}, {1, 0, 2}, {2, 0, 1}, {2, 1, 0}} {
				meshLikeTold(t, mesh([]impl.Vector{a, b, c}, triangle))
			}
		}
	}
}

// TestMeshesOfGridsLikeTold compares meshes, and what is told of them, for grids with numbers of all sizes.
func TestMeshesOfGridsLikeTold(t *testing.T) {
	r := rand.New(rand.NewSource(73))
	numbers := manyNumbers(100)
	for i := range 400 {
		var g impl.Grid
		switch i % 4 {
		case 0:
			g = randomGrid(r)
		case 1:
			g = borderOutside(randomGrid(r))
		case 2:
			g = wholeGrid(r)
		default:
			g = oddGrid(r, numbers)
		}
		m, ok := impl.MeshOf(g)
		makesMesh(t, fmt.Sprint("the mesh of ", g), m, ok, toldMesh(g))
		if len(m.Triangles) < 2000 {
			meshLikeTold(t, m)
		}
	}
}

// TestDamagedMeshesLikeTold changes one or two things of a mesh to what they can be elsewhere, or to nothing that there is.
func TestDamagedMeshesLikeTold(t *testing.T) {
	r := rand.New(rand.NewSource(74))
	valid, invalid := 0, 0
	for range 20000 {
		m := randomMesh(r)
		m.Triangles = append(m.Triangles, []int64{0, 1, 2})
		odd := append(oddIndices(), int64(len(m.Places)), int64(len(m.Places)-1), -1, 0, 1, 2)
		for range 1 + r.Intn(2) {
			i := r.Intn(len(m.Triangles))
			switch r.Intn(5) {
			case 0:
				m.Places = m.Places[:r.Intn(len(m.Places)+1)]
			case 1:
				m.Triangles[i] = m.Triangles[i][:r.Intn(len(m.Triangles[i])+1)]
			case 2:
				m.Triangles[i] = append(m.Triangles[i], odd[r.Intn(len(odd))])
			default:
				if k := r.Intn(3); k < len(m.Triangles[i]) {
					m.Triangles[i][k] = odd[r.Intn(len(odd))]
				}
			}
		}
		want := toldMeshIsValid(m)
		equal(t, fmt.Sprint(m, " is valid"), impl.ValidMesh(m), want)
		if want {
			valid++
		} else {
			invalid++
			refusedByMeshFunctions(t, fmt.Sprint(m), m)
		}
	}
	if valid < 3000 || invalid < 3000 {
		t.Errorf("only %d meshes that are valid, and %d that are not", valid, invalid)
	}
}
