package tests

import (
	"fmt"
	"math"
	"math/rand"
	"slices"
	"testing"

	"loop.example/g01193/impl"
)

func mesh(places []impl.Vector, triangles ...[]int64) impl.Mesh {
	return impl.Mesh{Places: places, Triangles: triangles}
}

// someLike returns so many places that are all different.
func someLike(count int) []impl.Vector {
	places := make([]impl.Vector, count)
	for i := range places {
		places[i] = vec(float32(i), float32(i*i%101), float32(i*i*i%103))
	}
	return places
}

// numberedMesh has so many places that are all different.
func numberedMesh(count int, triangles ...[]int64) impl.Mesh {
	return mesh(someLike(count), triangles...)
}

// repeatedTriangles returns so many triangles, each of which has a list of its own.
func repeatedTriangles(count int, indices ...int64) [][]int64 {
	triangles := make([][]int64, count)
	for i := range triangles {
		triangles[i] = slices.Clone(indices)
	}
	return triangles
}

// pyramid has three places on the axes and four triangles that are seen from outside.
func pyramid(x, y, z float32) impl.Mesh {
	return mesh([]impl.Vector{vec(0, 0, 0), vec(x, 0, 0), vec(0, y, 0), vec(0, 0, z)}, []int64{0, 2, 1}, []int64{0, 1, 3}, []int64{0, 3, 2}, []int64{1, 2, 3})
}

func copyMesh(m impl.Mesh) impl.Mesh {
	copied := mesh(slices.Clone(m.Places))
	for _, triangle := range m.Triangles {
		copied.Triangles = append(copied.Triangles, slices.Clone(triangle))
	}
	return copied
}

// equalMeshes compares meshes without the program.
func equalMeshes(a, b impl.Mesh) bool {
	sameBits := func(p, q impl.Vector) bool {
		return bitsOf(p.X) == bitsOf(q.X) && bitsOf(p.Y) == bitsOf(q.Y) && bitsOf(p.Z) == bitsOf(q.Z)
	}
	if len(a.Triangles) != len(b.Triangles) || !slices.EqualFunc(a.Places, b.Places, sameBits) {
		return false
	}
	for i, triangle := range a.Triangles {
		if fmt.Sprint(triangle) != fmt.Sprint(b.Triangles[i]) {
			return false
		}
	}
	return true
}

// makesMesh takes the two results of a call behind the one that names it.
func makesMesh(t *testing.T, what string, got impl.Mesh, ok bool, want impl.Mesh) {
	t.Helper()
	equal(t, what+" succeeds", ok, true)
	equal(t, what+" is valid", impl.ValidMesh(got), true)
	if !equalMeshes(got, want) {
		t.Errorf("%s: got %v, want %v", what, got, want)
	}
}

func failsMesh(t *testing.T, what string, got impl.Mesh, ok bool) {
	t.Helper()
	equal(t, what+" succeeds", ok, false)
	equal(t, what+", places", len(got.Places), 0)
	equal(t, what+", triangles", len(got.Triangles), 0)
}

// countIs and the ones below check a result of a mesh.
func countIs(t *testing.T, what string, got int64, ok bool, want int64) {
	t.Helper()
	equal(t, what+" succeeds", ok, true)
	equal(t, what, got, want)
}

func openIs(t *testing.T, what string, m impl.Mesh, want int64) {
	t.Helper()
	got, ok := impl.OpenEdges(m)
	countIs(t, what+", OpenEdges", got, ok, want)
}

func eulerIs(t *testing.T, what string, m impl.Mesh, want int64) {
	t.Helper()
	got, ok := impl.EulerOf(m)
	countIs(t, what+", EulerOf", got, ok, want)
}

func piecesAre(t *testing.T, what string, m impl.Mesh, want int64, pieces ...int64) {
	t.Helper()
	got, count, ok := impl.PiecesOf(m)
	countIs(t, what+", the count of PiecesOf", count, ok, want)
	equal(t, what+", the length of PiecesOf", len(got), len(pieces))
	for place := range min(len(got), len(pieces)) {
		if got[place] != pieces[place] {
			t.Fatalf("%s, the piece of the place %d: got %d, want %d", what, place, got[place], pieces[place])
		}
	}
}

func areaIs(t *testing.T, what string, m impl.Mesh, want float32) {
	t.Helper()
	got, ok := impl.AreaOf(m)
	succeeds(t, what+", AreaOf", got, ok, want)
}

func volumeIs(t *testing.T, what string, m impl.Mesh, want float32) {
	t.Helper()
	got, ok := impl.VolumeInside(m)
	succeeds(t, what+", VolumeInside", got, ok, want)
}

func normalsAre(t *testing.T, what string, m impl.Mesh, want ...impl.Vector) {
	t.Helper()
	got, ok := impl.NormalsOf(m)
	equal(t, what+", NormalsOf succeeds", ok, true)
	if !equalMeshes(mesh(got), mesh(want)) {
		t.Errorf("%s, NormalsOf: got %v, want %v", what, got, want)
	}
}

// validMeshes returns meshes at the limits of what is valid.
func validMeshes() map[string]impl.Mesh {
	meshes := map[string]impl.Mesh{
		"nothing":                             {},
		"empty lists":                         mesh([]impl.Vector{}, [][]int64{}...),
		"one place":                           numberedMesh(1),
		"places alone":                        numberedMesh(5),
		"a triangle":                          numberedMesh(3, []int64{0, 1, 2}),
		"a triangle with roomy indices":       numberedMesh(3, make([]int64, 3, 9)),
		"the same triangle twice":             numberedMesh(3, repeatedTriangles(2, 2, 0, 1)...),
		"a triangle of both sides":            numberedMesh(3, []int64{0, 1, 2}, []int64{0, 2, 1}),
		"a pyramid":                           pyramid(1, 2, 3),
		"the last places":                     numberedMesh(9, []int64{6, 7, 8}, []int64{8, 7, 6}, []int64{0, 8, 4}),
		"MaxPlaces places":                    numberedMesh(8192),
		"MaxPlaces places, the last ones":     numberedMesh(8192, []int64{8191, 8190, 8189}, []int64{0, 8191, 1}),
		"MaxTriangles triangles":              numberedMesh(3, repeatedTriangles(9000, 0, 1, 2)...),
		"MaxPlaces and MaxTriangles":          numberedMesh(8192, repeatedTriangles(9000, 8191, 0, 4000)...),
		"places that are the same":            mesh(make([]impl.Vector, 3), []int64{0, 1, 2}),
		"places that are no numbers":          mesh([]impl.Vector{vec(notNumber, infinite, -infinite), vec(0, notNumber, minusZero), vec(greatest, -greatest, num(1))}, []int64{0, 1, 2}),
		"places that are no numbers, at rest": mesh([]impl.Vector{vec(notNumber, num(0xffc00001), infinite), {}, {}, {}}, []int64{1, 2, 3}),
	}
	roomy := meshes["a triangle with roomy indices"].Triangles[0]
	roomy[1], roomy[2] = 1, 2
	return meshes
}

// invalidMeshes returns meshes each of which has one thing that is not allowed.
func invalidMeshes() map[string]impl.Mesh {
	good := []int64{0, 1, 2}
	meshes := map[string]impl.Mesh{
		"a place more than MaxPlaces":          numberedMesh(8193),
		"a place more than MaxPlaces, used":    numberedMesh(8193, good),
		"far more than MaxPlaces":              mesh(make([]impl.Vector, 100000)),
		"a triangle more than MaxTriangles":    numberedMesh(3, repeatedTriangles(9001, 0, 1, 2)...),
		"far more than MaxTriangles":           numberedMesh(3, repeatedTriangles(20000, 0, 1, 2)...),
		"triangles without places":             mesh(nil, good),
		"triangles without indices or places":  mesh(nil, nil),
		"the last triangle of MaxTriangles":    numberedMesh(3, append(repeatedTriangles(8999, 0, 1, 2), []int64{0, 1, 3})...),
		"the first triangle of MaxTriangles":   numberedMesh(3, append([][]int64{{0, 1, 3}}, repeatedTriangles(8999, 0, 1, 2)...)...),
		"an index too many of MaxPlaces":       numberedMesh(8192, []int64{8190, 8191, 8192}),
		"two places, and three indices":        numberedMesh(2, good),
		"a triangle of places that are beside": mesh(someLike(10)[:3], []int64{0, 1, 3}),
	}
	for i := range 3 {
		for _, index := range []int64{-1, -2, 5, 6, 8192, 1 << 32, 1<<32 + 4, -1 << 32, 1 << 62, math.MaxInt64, math.MinInt64} {
			bad := slices.Clone(good)
			bad[i] = index
			meshes[fmt.Sprint("an index, ", bad)] = numberedMesh(5, bad)
			meshes[fmt.Sprint("an index, before others, ", bad)] = numberedMesh(5, bad, good, good)
			meshes[fmt.Sprint("an index, among others, ", bad)] = numberedMesh(5, good, bad, good)
			meshes[fmt.Sprint("an index, behind others, ", bad)] = numberedMesh(5, good, good, bad)
		}
	}
	for _, bad := range [][]int64{nil, {}, {0}, {0, 1}, {0, 1, 2, 3}, {0, 1, 2, 0}, {0, 1, 2, 2}, {0, 1, 2, 3, 4}, {0, 0, 1}, {0, 1, 0}, {1, 0, 0}, {4, 4, 0}, {4, 0, 4}, {0, 4, 4}, {0, 0, 0}, {4, 4, 4}} {
		meshes[fmt.Sprint("indices, ", bad)] = numberedMesh(5, bad)
		meshes[fmt.Sprint("indices, before others, ", bad)] = numberedMesh(5, bad, good)
		meshes[fmt.Sprint("indices, behind others, ", bad)] = numberedMesh(5, good, bad)
	}
	return meshes
}

// refusedByMeshFunctions checks that all functions fail for a mesh that is not valid.
func refusedByMeshFunctions(t *testing.T, what string, m impl.Mesh) {
	t.Helper()
	made, ok := impl.FlipMesh(m)
	failsMesh(t, what+", FlipMesh", made, ok)
	count, ok := impl.OpenEdges(m)
	fails(t, what+", OpenEdges", count, ok)
	count, ok = impl.EulerOf(m)
	fails(t, what+", EulerOf", count, ok)
	list, count, ok := impl.PiecesOf(m)
	failsList(t, what+", PiecesOf", list, ok)
	equal(t, what+", the count of PiecesOf", count, 0)
	x, ok := impl.AreaOf(m)
	fails(t, what+", AreaOf", x, ok)
	x, ok = impl.VolumeInside(m)
	fails(t, what+", VolumeInside", x, ok)
	normals, ok := impl.NormalsOf(m)
	failsList(t, what+", NormalsOf", normals, ok)
	list, ok = impl.UsedPlaces(m)
	failsList(t, what+", UsedPlaces", list, ok)
	made, ok = impl.TrimMesh(m)
	failsMesh(t, what+", TrimMesh", made, ok)
	text, ok := impl.MeshText(m)
	fails(t, what+", MeshText", text, ok)
}

// randomMesh returns a valid mesh of places with numbers of a usual size, of which some are often used and some never.
func randomMesh(r *rand.Rand) impl.Mesh {
	var m impl.Mesh
	for range 3 + r.Intn(20) {
		m.Places = append(m.Places, randomPoint(r, 4))
	}
	most := 3 + r.Intn(len(m.Places)-2)
	for range r.Intn(30) {
		triangle := r.Perm(most)[:3]
		m.Triangles = append(m.Triangles, []int64{int64(triangle[0]), int64(triangle[1]), int64(triangle[2])})
	}
	return m
}

// oddMesh returns a valid mesh with numbers of all sizes in some of its places.
func oddMesh(r *rand.Rand, numbers []float32) impl.Mesh {
	m := randomMesh(r)
	often := 1 + r.Intn(20)
	for i := range m.Places {
		for axis := range 3 {
			if r.Intn(often) == 0 {
				*partOf(&m.Places[i], axis) = numbers[r.Intn(len(numbers))]
			}
		}
	}
	return m
}

// wayGrid is a cell of whose corners those in the bits of way are inside, at half of each edge to the others.
func wayGrid(way int) impl.Grid {
	g := levelGrid(2, 2, 2, 1)
	for corner := range g.Values {
		if way>>corner&1 == 1 {
			g.Values[corner] = -1
		}
	}
	return g
}

// borderOutside changes the values at the border of a grid that are inside.
func borderOutside(g impl.Grid) impl.Grid {
	g = copyGrid(g)
	counts := [3]int64{g.X, g.Y, g.Z}
	order, _ := toldAll(g)
	for i, p := range order {
		for axis, n := range p {
			if (n == 0 || n == counts[axis]-1) && g.Values[i] < 0 {
				g.Values[i] = -g.Values[i]
			}
		}
	}
	return g
}
