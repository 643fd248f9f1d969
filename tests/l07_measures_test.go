package tests

import (
	"fmt"
	"slices"
	"strings"
	"testing"

	"loop.example/g01193/impl"
)

func TestValidMeshes(t *testing.T) {
	for what, m := range validMeshes() {
		equal(t, what+" is valid", impl.ValidMesh(m), true)
		equal(t, what+" is the same", impl.SameMesh(m, copyMesh(m)), true)
	}
}

func TestMeshesAreRefused(t *testing.T) {
	for what, m := range invalidMeshes() {
		equal(t, what+" is valid", impl.ValidMesh(m), false)
		equal(t, what+" is valid, as it is told", toldMeshIsValid(m), false)
		refusedByMeshFunctions(t, what, m)
		equal(t, what+" is the same", impl.SameMesh(m, copyMesh(m)), true)
	}
}

// TestIndicesOfPlaces has each index at each position, for one to five places.
func TestIndicesOfPlaces(t *testing.T) {
	for count := range int64(6) {
		for i := int64(-1); i <= count; i++ {
			for j := int64(-1); j <= count; j++ {
				for k := int64(-1); k <= count; k++ {
					isThere := min(i, j, k) >= 0 && max(i, j, k) < count && i != j && i != k && j != k
					m := numberedMesh(int(count), []int64{i, j, k})
					equal(t, fmt.Sprint("the triangle ", i, j, k, " of ", count, " places"), impl.ValidMesh(m), isThere)
				}
			}
		}
	}
}

// TestSameMesh changes each part, of valid meshes and others.
func TestSameMesh(t *testing.T) {
	odd := mesh([]impl.Vector{vec(notNumber, 0, minusZero), vec(1, infinite, 2)}, []int64{-1, 7}, nil, []int64{3, 3, 3})
	for _, m := range []impl.Mesh{pyramid(1, 2, 3), numberedMesh(4, []int64{0, 1, 2}, []int64{2, 1, 3}), odd} {
		equal(t, fmt.Sprint(m, " and itself"), impl.SameMesh(m, copyMesh(m)), true)
		last := len(m.Triangles) - 1
		changes := map[string]func(m *impl.Mesh){
			"a place less":         func(m *impl.Mesh) { m.Places = m.Places[:len(m.Places)-1] },
			"a place more":         func(m *impl.Mesh) { m.Places = append(m.Places, vec(1, 2, 3)) },
			"no places":            func(m *impl.Mesh) { m.Places = nil },
			"places exchanged":     func(m *impl.Mesh) { m.Places[0], m.Places[1] = m.Places[1], m.Places[0] },
			"a triangle less":      func(m *impl.Mesh) { m.Triangles = m.Triangles[:last] },
			"a triangle more":      func(m *impl.Mesh) { m.Triangles = append(m.Triangles, []int64{0, 1, 2}) },
			"no triangle more":     func(m *impl.Mesh) { m.Triangles = append(m.Triangles, nil) },
			"no triangles":         func(m *impl.Mesh) { m.Triangles = nil },
			"triangles exchanged":  func(m *impl.Mesh) { m.Triangles[0], m.Triangles[last] = m.Triangles[last], m.Triangles[0] },
			"an index more":        func(m *impl.Mesh) { m.Triangles[last] = append(m.Triangles[last], 0) },
			"an index less":        func(m *impl.Mesh) { m.Triangles[0] = m.Triangles[0][:1] },
			"an index at the end":  func(m *impl.Mesh) { m.Triangles[last][2] = 77 },
			"an index, far away":   func(m *impl.Mesh) { m.Triangles[0][0] += 1 << 32 },
			"the first one turned": func(m *impl.Mesh) { slices.Reverse(m.Triangles[0]) },
		}
		for axis := range 3 {
			for _, i := range []int{0, len(m.Places) - 1} {
				changes[fmt.Sprint("the place ", i, ", ", axis)] = func(m *impl.Mesh) { *partOf(&m.Places[i], axis) = 77 }
			}
		}
		for what, change := range changes {
			other := copyMesh(m)
			change(&other)
			equal(t, fmt.Sprint(m, ", ", what), impl.SameMesh(m, other), false)
			equal(t, fmt.Sprint(m, ", ", what, ", the other way"), impl.SameMesh(other, m), false)
		}
	}
	// The same triangle can begin at each of its indices.
	equal(t, "a triangle that begins elsewhere", impl.SameMesh(numberedMesh(3, []int64{0, 1, 2}), numberedMesh(3, []int64{1, 2, 0})), false)
	for axis := range 3 {
		equal(t, "a sign", impl.SameMesh(mesh([]impl.Vector{zeros(axis, 0)}), mesh([]impl.Vector{zeros(axis, minusZero)})), false)
		equal(t, "not-a-numbers", impl.SameMesh(mesh([]impl.Vector{zeros(axis, num(0x7f800001))}), mesh([]impl.Vector{zeros(axis, num(0xffc00000))})), true)
	}
	equal(t, "nothing", impl.SameMesh(impl.Mesh{}, mesh([]impl.Vector{}, [][]int64{}...)), true)
	equal(t, "no indices", impl.SameMesh(mesh(nil, nil), mesh(nil, []int64{})), true)
	equal(t, "no triangles, and one without indices", impl.SameMesh(impl.Mesh{}, mesh(nil, nil)), false)
}

func TestFlipMesh(t *testing.T) {
	m := pyramid(1, 2, 3)
	want := mesh(m.Places, []int64{0, 1, 2}, []int64{0, 3, 1}, []int64{0, 2, 3}, []int64{1, 3, 2})
	got, ok := impl.FlipMesh(m)
	makesMesh(t, "a pyramid", got, ok, want)
	for what, m := range validMeshes() {
		once, ok := impl.FlipMesh(m)
		makesMesh(t, what+", flipped", once, ok, toldFlipped(m))
		twice, ok := impl.FlipMesh(once)
		makesMesh(t, what+", flipped twice", twice, ok, m)
		open, _ := impl.OpenEdges(m)
		openIs(t, what+", flipped", once, open)
		euler, _ := impl.EulerOf(m)
		eulerIs(t, what+", flipped", once, euler)
		area, _ := impl.AreaOf(m)
		areaIs(t, what+", flipped", once, area)
	}
}

// TestEdges has meshes of which one can count the edges.
func TestEdges(t *testing.T) {
	for _, c := range []struct {
		what        string
		m           impl.Mesh
		open, euler int64
	}{
		{"nothing", impl.Mesh{}, 0, 0},
		{"places alone", numberedMesh(7), 0, 0},
		{"a triangle", numberedMesh(3, []int64{0, 1, 2}), 3, 1},
		{"a triangle among other places", numberedMesh(9, []int64{8, 1, 4}), 3, 1},
		{"two triangles apart", numberedMesh(6, []int64{0, 1, 2}, []int64{3, 4, 5}), 6, 2},
		{"two triangles at a place", numberedMesh(5, []int64{0, 1, 2}, []int64{2, 3, 4}), 6, 1},
		{"two triangles that go along an edge both ways", numberedMesh(4, []int64{0, 1, 2}, []int64{1, 0, 3}), 4, 1},
		{"two triangles that go along an edge in one direction", numberedMesh(4, []int64{0, 1, 2}, []int64{0, 1, 3}), 5, 1},
		{"the third and the first index", numberedMesh(4, []int64{0, 1, 2}, []int64{0, 2, 3}), 4, 1},
		{"the second and the third index", numberedMesh(4, []int64{0, 1, 2}, []int64{2, 1, 3}), 4, 1},
		{"a triangle twice", numberedMesh(3, []int64{0, 1, 2}, []int64{1, 2, 0}), 3, 2},
		{"a triangle and its other side", numberedMesh(3, []int64{0, 1, 2}, []int64{0, 2, 1}), 0, 2},
		{"a triangle twice and its other side", numberedMesh(3, []int64{0, 1, 2}, []int64{0, 2, 1}, []int64{1, 2, 0}), 3, 3},
		{"a triangle and its other side twice", numberedMesh(3, []int64{0, 1, 2}, []int64{0, 2, 1}, []int64{2, 1, 0}), 3, 3},
		{"a triangle twice and its other side twice", numberedMesh(3, []int64{0, 1, 2}, []int64{0, 2, 1}, []int64{1, 2, 0}, []int64{2, 1, 0}), 0, 4},
		{"an edge with three triangles", numberedMesh(5, []int64{0, 1, 2}, []int64{1, 0, 3}, []int64{1, 0, 4}), 7, 1},
		{"a pyramid", pyramid(1, 1, 1), 0, 2},
		{"a pyramid, one of whose sides is flipped", numberedMesh(4, []int64{0, 1, 2}, []int64{0, 1, 3}, []int64{0, 3, 2}, []int64{1, 2, 3}), 3, 2},
		{"a pyramid without a side", numberedMesh(4, []int64{0, 1, 3}, []int64{0, 3, 2}, []int64{1, 2, 3}), 3, 1},
		{"places that are the same vector", mesh(make([]impl.Vector, 6), []int64{0, 1, 2}, []int64{5, 4, 3}), 6, 2},
		{"MaxTriangles", numberedMesh(8192, repeatedTriangles(9000, 8191, 5, 77)...), 3, 3 - 3 + 9000},
	} {
		openIs(t, c.what, c.m, c.open)
		eulerIs(t, c.what, c.m, c.euler)
	}
}

// TestPieces has pieces whose least places are not met first, and that are joined late.
func TestPieces(t *testing.T) {
	piecesAre(t, "nothing", impl.Mesh{}, 0)
	piecesAre(t, "places alone", numberedMesh(3), 0, -1, -1, -1)
	piecesAre(t, "one piece", numberedMesh(3, []int64{2, 0, 1}), 1, 0, 0, 0)
	piecesAre(t, "the last places", numberedMesh(5, []int64{4, 3, 2}), 1, -1, -1, 0, 0, 0)
	piecesAre(t, "two pieces in order", numberedMesh(6, []int64{0, 1, 2}, []int64{3, 4, 5}), 2, 0, 0, 0, 1, 1, 1)
	piecesAre(t, "two pieces, the later one first", numberedMesh(6, []int64{3, 4, 5}, []int64{2, 1, 0}), 2, 0, 0, 0, 1, 1, 1)
	piecesAre(t, "pieces in turn", numberedMesh(7, []int64{1, 3, 5}, []int64{0, 2, 6}), 2, 0, 1, 0, 1, -1, 1, 0)
	piecesAre(t, "joined at a place", numberedMesh(5, []int64{0, 1, 2}, []int64{4, 3, 2}), 1, 0, 0, 0, 0, 0)
	piecesAre(t, "joined late", numberedMesh(10, []int64{6, 7, 8}, []int64{3, 4, 5}, []int64{0, 1, 2}, []int64{8, 5, 2}), 1, 0, 0, 0, 0, 0, 0, 0, 0, 0, -1)
	piecesAre(t, "two of three joined late", numberedMesh(9, []int64{6, 7, 8}, []int64{3, 4, 5}, []int64{0, 1, 2}, []int64{8, 7, 2}), 2, 0, 0, 0, 1, 1, 1, 0, 0, 0)
	piecesAre(t, "places that are the same vector", mesh(make([]impl.Vector, 6), []int64{0, 1, 5}, []int64{2, 3, 4}), 2, 0, 0, 1, 1, 1, 0)
	piecesAre(t, "a triangle of both sides", numberedMesh(4, []int64{1, 2, 3}, []int64{1, 3, 2}), 1, -1, 0, 0, 0)
	for name, order := range map[string]func(i int) int{
		"up":         func(i int) int { return i },
		"down":       func(i int) int { return 4094 - i },
		"there":      func(i int) int { return i * 1004 % 4095 },
		"every half": func(i int) int { return 2 * i % 4095 },
	} {
		// A chain is one piece for every order in which it is put together.
		chain := numberedMesh(8192)
		for i := range 4095 {
			first := int64(2 * order(i))
			chain.Triangles = append(chain.Triangles, []int64{first + 2, first, first + 1})
		}
		want := make([]int64, 8192)
		want[8191] = -1
		piecesAre(t, "a chain, "+name, chain, 1, want...)
	}
}

func TestAreas(t *testing.T) {
	one := []int64{0, 1, 2}
	at := func(a, b, c impl.Vector) impl.Mesh { return mesh([]impl.Vector{a, b, c}, one) }
	areaIs(t, "nothing", impl.Mesh{}, 0)
	areaIs(t, "places alone", numberedMesh(9), 0)
	areaIs(t, "across Z", at(vec(0, 0, 0), vec(3, 0, 0), vec(0, 4, 0)), 6)
	areaIs(t, "across X", at(vec(7, 0, 0), vec(7, 3, 0), vec(7, 0, 4)), 6)
	areaIs(t, "across Y", at(vec(0, -7, 0), vec(0, -7, 4), vec(3, -7, 0)), 6)
	areaIs(t, "from elsewhere", at(vec(1, 2, 3), vec(3, 2, 3), vec(1, 2, 4)), 1)
	areaIs(t, "of all axes", at(vec(0, 0, 0), vec(2, 2, 1), vec(-2, 1, 2)), 4.5)
	areaIs(t, "a side of a cube, across", at(vec(1, 0, 0), vec(0, 1, 0), vec(0, 0, 1)), 0.8660254)
	areaIs(t, "both sides", mesh([]impl.Vector{vec(5, 5, 5), vec(6, 6, 6), vec(7, 9, 13)}, one, []int64{0, 2, 1}), 7.483315)
	areaIs(t, "a line", at(vec(0, 0, 0), vec(1, 2, 3), vec(2, 4, 6)), 0)
	areaIs(t, "one vector", at(vec(1, 2, 3), vec(1, 2, 3), vec(1, 2, 3)), 0)
	areaIs(t, "two vectors that are the same", at(vec(1, 2, 3), vec(4, 2, 3), vec(1, 2, 3)), 0)
	areaIs(t, "the least one", at(vec(0, 0, 0), vec(num(2), 0, 0), vec(0, 1, 0)), num(1))
	areaIs(t, "a tie of the least one", at(vec(0, 0, 0), vec(num(1), 0, 0), vec(0, 1, 0)), 0)
	areaIs(t, "one that is lost", at(vec(0, 0, 0), vec(1e-30, 0, 0), vec(0, 1e-30, 0)), 0)
	areaIs(t, "squares that are too great for 32 bits", at(vec(0, 0, 0), vec(1<<60, 0, 0), vec(0, 1<<60, 0)), 1<<119)
	areaIs(t, "squares that are too small for 32 bits", at(vec(0, 0, 0), vec(num(0x20000000), 0, 0), vec(0, num(0x20000000), 0)), num(0x00800000)/2)
	areaIs(t, "a difference that is too great for 32 bits", at(vec(-greatest, 0, 0), vec(greatest, 0, 0), vec(-greatest, 1, 0)), greatest)
	areaIs(t, "the greatest one, and too great", at(vec(-greatest, 0, 0), vec(greatest, 0, 0), vec(-greatest, 2, 0)), infinite)
	areaIs(t, "an overflow", at(vec(0, 0, 0), vec(greatest, 0, 0), vec(0, greatest, 0)), infinite)
	areaIs(t, "an infinity", at(vec(0, 0, 0), vec(infinite, 0, 0), vec(0, 1, 0)), notNumber)
	areaIs(t, "an infinity along all", at(vec(0, 0, 0), vec(infinite, infinite, infinite), vec(1, 2, 3)), notNumber)
	areaIs(t, "a not-a-number", at(vec(0, 0, notNumber), vec(1, 0, 0), vec(0, 1, 0)), notNumber)
	areaIs(t, "a not-a-number that is not used", mesh([]impl.Vector{{}, vec(3, 0, 0), vec(0, 4, 0), vec(notNumber, infinite, 0)}, one), 6)
	areaIs(t, "a sum behind an overflow", mesh([]impl.Vector{{}, vec(greatest, 0, 0), vec(0, greatest, 0), vec(notNumber, 0, 0)}, one, []int64{0, 1, 3}), notNumber)
	areaIs(t, "a pyramid", pyramid(1, 1, 1), 1.5+0.8660254)
	areaIs(t, "differences of 64 bits", mesh([]impl.Vector{vec(-1<<24, 0, 0), vec(0.9375, 0, 0), vec(-1<<24, 1, 0)}, repeatedTriangles(30, 0, 1, 2)...), 15*(1<<24)+16)
	areaIs(t, "MaxTriangles", mesh([]impl.Vector{{}, vec(3, 0, 0), vec(0, 4, 0)}, repeatedTriangles(9000, 0, 1, 2)...), 54000)
}

func TestVolumes(t *testing.T) {
	one := []int64{0, 1, 2}
	at := func(a, b, c impl.Vector) impl.Mesh { return mesh([]impl.Vector{a, b, c}, one) }
	volumeIs(t, "nothing", impl.Mesh{}, 0)
	volumeIs(t, "places alone", numberedMesh(9), 0)
	volumeIs(t, "a pyramid", pyramid(3, 4, 5), 10)
	volumeIs(t, "a pyramid on the other side", pyramid(-3, 4, 5), -10)
	flipped, _ := impl.FlipMesh(pyramid(3, 4, 5))
	volumeIs(t, "a pyramid seen from inside", flipped, -10)
	moved := pyramid(3, 4, 5)
	for i := range moved.Places {
		moved.Places[i] = toldAdd(moved.Places[i], vec(-7, 11, 100))
	}
	volumeIs(t, "a pyramid elsewhere", moved, 10)
	volumeIs(t, "a triangle", at(vec(1, 2, 3), vec(4, 5, 6), vec(7, 8, 10)), -0.5)
	volumeIs(t, "a triangle of the axes", at(vec(1, 0, 0), vec(0, 2, 0), vec(0, 0, 3)), 1)
	volumeIs(t, "a triangle of the axes in turn", at(vec(0, 2, 0), vec(0, 0, 3), vec(1, 0, 0)), 1)
	volumeIs(t, "a triangle and its other side", mesh([]impl.Vector{vec(1, 0, 0), vec(0, 2, 0), vec(0, 0, 3)}, one, []int64{0, 2, 1}), 0)
	volumeIs(t, "a term of -0", at(vec(0, 0, 0), vec(0, 1, -1), vec(1, 0, -1)), 0)
	volumeIs(t, "a sixth that is rounded", at(vec(1, 0, 0), vec(0, 1, 0), vec(0, 0, 1)), quotient(1, 6))
	volumeIs(t, "a sixth just above a tie", at(vec(6, 0, 1.0/(1<<26)), vec(1, 4097, 0), vec(0, 1, 4097)), 4097*4097+1)
	volumeIs(t, "the least one", at(vec(num(6), 0, 0), vec(0, 1, 0), vec(0, 0, 1)), num(1))
	volumeIs(t, "one that is lost", at(vec(-num(2), 0, 0), vec(0, 1, 0), vec(0, 0, 1)), minusZero)
	volumeIs(t, "a cross that is too great for 32 bits", at(vec(1e-30, 0, 0), vec(0, 1<<70, 0), vec(0, 0, 1<<70)), float32(float64(float32(1e-30))*0x1p140/6))
	volumeIs(t, "an overflow", at(vec(greatest, 0, 0), vec(0, greatest, 0), vec(0, 0, greatest)), infinite)
	volumeIs(t, "a negative overflow", at(vec(-greatest, 0, 0), vec(0, greatest, 0), vec(0, 0, greatest)), -infinite)
	volumeIs(t, "an overflow that is taken back", mesh([]impl.Vector{vec(greatest, 0, 0), vec(0, greatest, 0), vec(0, 0, greatest)}, one, []int64{0, 2, 1}), 0)
	volumeIs(t, "an infinity beside zeros", at(vec(infinite, 0, 0), vec(0, 1, 0), vec(0, 0, 1)), infinite)
	volumeIs(t, "an infinity times zero", at(vec(0, 1, 0), vec(infinite, 0, 0), vec(0, 0, 1)), notNumber)
	volumeIs(t, "infinities alone", at(vec(infinite, infinite, infinite), vec(3, 1, 1), vec(1, 3, 1)), notNumber)
	volumeIs(t, "an infinity in all terms", at(vec(infinite, infinite, infinite), vec(2, 0, 1), vec(0, 2, -3)), notNumber)
	volumeIs(t, "an infinite volume", at(vec(infinite, infinite, infinite), vec(0, 1, -1), vec(-1, 0, 1)), infinite)
	volumeIs(t, "a not-a-number", at(vec(1, 2, 3), vec(1, notNumber, 0), vec(0, 1, 0)), notNumber)
	volumeIs(t, "a not-a-number that is not used", mesh([]impl.Vector{vec(1, 0, 0), vec(0, 2, 0), vec(0, 0, 3), vec(notNumber, infinite, 0)}, one), 1)
	// In order, the 1 is lost in the great sum.
	great := []impl.Vector{vec(1<<20, 0, 0), vec(0, 1<<20, 0), vec(0, 0, 1<<20), vec(1, 0, 0), vec(0, 1, 0), vec(0, 0, 1)}
	volumeIs(t, "sums in order", mesh(great, one, []int64{3, 4, 5}, []int64{0, 2, 1}), 0)
	volumeIs(t, "sums in another order", mesh(great, one, []int64{0, 2, 1}, []int64{3, 4, 5}), quotient(1, 6))
}

func TestNormals(t *testing.T) {
	one := []int64{0, 1, 2}
	x, y, z, none := vec(1, 0, 0), vec(0, 1, 0), vec(0, 0, 1), vec(0, 0, 0)
	at := func(a, b, c impl.Vector) impl.Mesh { return mesh([]impl.Vector{a, b, c}, one) }
	normalsAre(t, "nothing", impl.Mesh{})
	normalsAre(t, "places alone", numberedMesh(2), none, none)
	normalsAre(t, "across X", at(none, y, z), x, x, x)
	normalsAre(t, "across Y", at(none, z, x), y, y, y)
	normalsAre(t, "across Z", at(none, x, y), z, z, z)
	normalsAre(t, "the other side of Z", at(none, y, x), vec(0, 0, -1), vec(0, 0, -1), vec(0, 0, -1))
	normalsAre(t, "a cross of -0 is added to +0", at(none, vec(1, -1, 0), vec(0, 1, 0)), z, z, z)
	normalsAre(t, "from elsewhere, and long", at(vec(1, 2, 3), vec(1, 2, 9), vec(8, 2, 3)), y, y, y)
	normalsAre(t, "a triangle and its other side", mesh([]impl.Vector{none, x, y}, one, []int64{0, 2, 1}), none, none, none)
	normalsAre(t, "a line", at(none, vec(1, 2, 3), vec(2, 4, 6)), none, none, none)
	normalsAre(t, "one vector", at(x, x, x), none, none, none)
	normalsAre(t, "a not-a-number", at(none, vec(notNumber, 0, 0), y), none, none, none)
	normalsAre(t, "an infinity", at(none, vec(infinite, 0, 0), y), none, none, none)
	normalsAre(t, "a difference that overflows", at(vec(-greatest, 0, 0), vec(greatest, 0, 0), vec(0, 1, 0)), none, none, none)
	normalsAre(t, "a length that overflows", at(none, vec(1e20, 0, 0), vec(0, 1, 0)), none, none, none)
	normalsAre(t, "a length that is lost", at(none, vec(1e-30, 0, 0), vec(0, 1, 0)), none, none, none)
	normalsAre(t, "a product that is lost", at(none, vec(1e-30, 0, 0), vec(0, 1e-30, 0)), none, none, none)
	normalsAre(t, "a place of two triangles", mesh([]impl.Vector{none, x, y, z}, one, []int64{0, 2, 3}),
		toldUnit(vec(1, 0, 1)), z, toldUnit(vec(1, 0, 1)), x)
	normalsAre(t, "a place that is not used", mesh([]impl.Vector{x, none, x, y}, []int64{1, 2, 3}), none, z, z, z)
	normalsAre(t, "places that are the same vector", mesh([]impl.Vector{none, x, y, none, y, z}, one, []int64{3, 4, 5}), z, z, z, x, x, x)
	normalsAre(t, "triangles count as much as they are great", mesh([]impl.Vector{none, x, y, vec(0, 3, 0), z}, one, []int64{0, 3, 4}),
		toldUnit(vec(3, 0, 1)), z, z, x, x)
	side := toldUnit(vec(1, 1, 1))
	normalsAre(t, "a pyramid", pyramid(1, 1, 1), toldUnit(vec(-1, -1, -1)), x, y, z)
	normalsAre(t, "a side", mesh(pyramid(1, 1, 1).Places, []int64{1, 2, 3}), none, side, side, side)
	// In order, the small cross is lost in the great sum.
	great := []impl.Vector{none, vec(0, 1e8, 0), z, vec(0, 1, 0), x}
	normalsAre(t, "sums in order", mesh(great, []int64{0, 1, 2}, []int64{0, 3, 2}, []int64{0, 2, 1}, []int64{0, 4, 3}),
		z, none, vec(0, 0, 0), toldUnit(vec(1, 0, 1)), z)
	normalsAre(t, "sums in another order", mesh(great, []int64{0, 1, 2}, []int64{0, 2, 1}, []int64{0, 3, 2}, []int64{0, 4, 3}),
		toldUnit(vec(1, 0, 1)), none, x, toldUnit(vec(1, 0, 1)), z)
}

func TestUsedPlaces(t *testing.T) {
	for _, c := range []struct {
		what    string
		m       impl.Mesh
		used    string
		trimmed impl.Mesh
	}{
		{"nothing", impl.Mesh{}, "[]", impl.Mesh{}},
		{"places alone", numberedMesh(3), "[]", impl.Mesh{}},
		{"all places", numberedMesh(4, []int64{3, 0, 1}, []int64{1, 3, 2}), "[0 1 2 3]", numberedMesh(4, []int64{3, 0, 1}, []int64{1, 3, 2})},
		{"the last places", numberedMesh(6, []int64{5, 3, 4}), "[3 4 5]", mesh(someLike(6)[3:], []int64{2, 0, 1})},
		{"the first and the last place", numberedMesh(9, []int64{8, 0, 4}, []int64{4, 0, 8}), "[0 4 8]",
			mesh([]impl.Vector{someLike(9)[0], someLike(9)[4], someLike(9)[8]}, []int64{2, 0, 1}, []int64{1, 0, 2})},
		{"places that are the same vector", mesh([]impl.Vector{{}, vec(1, notNumber, minusZero), {}, {}, vec(infinite, 0, 0)}, []int64{4, 2, 1}), "[1 2 4]",
			mesh([]impl.Vector{vec(1, notNumber, minusZero), {}, vec(infinite, 0, 0)}, []int64{2, 1, 0})},
	} {
		used, ok := impl.UsedPlaces(c.m)
		equal(t, c.what+", UsedPlaces succeeds", ok, true)
		equal(t, c.what+", UsedPlaces", fmt.Sprint(used), c.used)
		trimmed, ok := impl.TrimMesh(c.m)
		makesMesh(t, c.what+", TrimMesh", trimmed, ok, c.trimmed)
		again, ok := impl.TrimMesh(trimmed)
		makesMesh(t, c.what+", TrimMesh twice", again, ok, c.trimmed)
	}
}

func TestMeshText(t *testing.T) {
	for _, c := range []struct {
		m    impl.Mesh
		want string
	}{
		{impl.Mesh{}, ""},
		{mesh([]impl.Vector{vec(1, minusZero, -2)}), "v 3f800000,80000000,c0000000\n"},
		{mesh([]impl.Vector{vec(num(0xff800001), infinite, num(1))}), "v 7fc00000,7f800000,00000001\n"},
		{mesh([]impl.Vector{{}, vec(0, 1, 0), vec(2, 0, 0), {}}, []int64{0, 1, 2}, []int64{3, 2, 1}),
			"v 00000000,00000000,00000000\nv 00000000,3f800000,00000000\nv 40000000,00000000,00000000\nv 00000000,00000000,00000000\nf 0,1,2\nf 3,2,1\n"},
	} {
		got, ok := impl.MeshText(c.m)
		equal(t, "MeshText succeeds", ok, true)
		equal(t, "MeshText", got, c.want)
	}
}

func TestLimitsOfMeshText(t *testing.T) {
	for _, places := range []int{0, 3, 99, 100, 101, 102, 200, 201, 8192} {
		for _, triangles := range []int{0, 1, 99, 100, 101, 199, 200, 201, 202, 9000} {
			if places == 0 && triangles > 0 {
				continue
			}
			what := fmt.Sprint("the text of ", places, " places and ", triangles, " triangles")
			m := numberedMesh(places, repeatedTriangles(triangles, int64(places-1), 0, 1)...)
			equal(t, what+" is of a valid mesh", impl.ValidMesh(m), true)
			got, ok := impl.MeshText(m)
			if places > 100 || triangles > 200 {
				fails(t, what, got, ok)
				continue
			}
			equal(t, what+" succeeds", ok, true)
			equal(t, what, got, toldMeshText(m))
			equal(t, what+", its lines", strings.Count(got, "\n"), places+triangles)
		}
	}
}
