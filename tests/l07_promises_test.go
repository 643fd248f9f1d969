package tests

import (
	"fmt"
	"maps"
	"math"
	"math/rand"
	"slices"
	"strings"
	"testing"

	"loop.example/g01193/impl"
)

// TestExamplesOfChapter7 asserts the examples at the end of the chapter.
func TestExamplesOfChapter7(t *testing.T) {
	m, ok := impl.MeshOf(unitGrid(2, 2, 2, -1, 1, 1, 1, 1, 1, 1, 1))
	equal(t, "the mesh is there", ok, true)
	equal(t, "places", len(m.Places), 7)
	equal(t, "triangles", len(m.Triangles), 6)
	m, ok = impl.MeshOf(levelGrid(2, 2, 2, 1))
	makesMesh(t, "no point inside", m, ok, impl.Mesh{})
	m, ok = impl.MeshOf(levelGrid(5, 6, 7, 0))
	makesMesh(t, "no point of many inside", m, ok, impl.Mesh{})
}

// isClosed checks that the surface of a grid whose border is outside has no open edges, and that each edge belongs to two
// triangles, which go along it in opposite directions.
func isClosed(t *testing.T, what string, g impl.Grid) impl.Mesh {
	t.Helper()
	m, ok := impl.MeshOf(g)
	equal(t, what+", MeshOf succeeds", ok, true)
	equal(t, what+", the mesh is valid", impl.ValidMesh(m), true)
	openIs(t, what, m, 0)
	edges := toldEdges(m)
	for ends, count := range edges {
		if back := edges[[2]int64{ends[1], ends[0]}]; count != 1 || back != 1 {
			t.Fatalf("%s: %d triangles go along the edge %v, and %d back", what, count, ends, back)
		}
	}
	return m
}

// pointsInside returns how many points of a grid are inside.
func pointsInside(g impl.Grid) int {
	inside := 0
	for _, value := range g.Values {
		if value < 0 {
			inside++
		}
	}
	return inside
}

// TestClosedSurfaces is the promise of the chapter.
func TestClosedSurfaces(t *testing.T) {
	r := rand.New(rand.NewSource(76))
	numbers := manyNumbers(200)
	closed := 0
	for i := range 1200 {
		var g impl.Grid
		switch i % 3 {
		case 0:
			g = randomGrid(r)
		case 1:
			g = wholeGrid(r)
		default:
			g = oddGrid(r, numbers)
		}
		g = borderOutside(g)
		m := isClosed(t, fmt.Sprint("the grid ", g), g)
		equal(t, "a surface around what is inside", len(m.Triangles) > 0, pointsInside(g) > 0)
		if len(m.Triangles) > 0 {
			closed++
		}
		if i%3 == 0 && len(m.Triangles) > 0 {
			volume, ok := impl.VolumeInside(m)
			equal(t, "VolumeInside succeeds", ok, true)
			equal(t, "a surface that is seen from outside", volume > 0, true)
			flipped, _ := impl.FlipMesh(m)
			openIs(t, "a surface that is flipped", flipped, 0)
			volume, _ = impl.VolumeInside(flipped)
			equal(t, "a surface that is seen from inside", volume < 0, true)
		}
	}
	if closed < 200 {
		t.Errorf("only %d closed surfaces that are not empty", closed)
	}
}

// TestWaysAmongOthers has each way in which the corners of a cell can be inside in the middle of a grid.
func TestWaysAmongOthers(t *testing.T) {
	for way := range 256 {
		g := levelGrid(4, 4, 4, 1)
		for corner, value := range wayGrid(way).Values {
			p := toldCorner(at{1, 1, 1}, corner)
			g.Values[p[0]+4*(p[1]+4*p[2])] = value
		}
		what := fmt.Sprintf("the way %08b among others", way)
		m := isClosed(t, what, g)
		equal(t, what+", triangles", len(m.Triangles) > 0, way > 0)
	}
}

// TestOpenSurfaces checks grids whose border is not outside: just the edges that lie at the border of the grid are open.
func TestOpenSurfaces(t *testing.T) {
	r := rand.New(rand.NewSource(77))
	for range 200 {
		g := randomGrid(r)
		g.Low, g.Step = vec(0, 0, 0), 1
		for i, value := range g.Values {
			// So all places are middles, and their numbers are exact.
			g.Values[i] = float32(math.Copysign(1, float64(value)))
		}
		m, ok := impl.MeshOf(g)
		equal(t, "MeshOf succeeds", ok, true)
		ends := vec(float32(g.X-1), float32(g.Y-1), float32(g.Z-1))
		edges := toldEdges(m)
		open := int64(0)
		for pair, count := range edges {
			p, q := m.Places[pair[0]], m.Places[pair[1]]
			atBorder := false
			for axis := range 3 {
				x, y, end := *partOf(&p, axis), *partOf(&q, axis), *partOf(&ends, axis)
				atBorder = atBorder || x == y && (x == 0 || x == end)
			}
			back := edges[[2]int64{pair[1], pair[0]}]
			if count != 1 || back == 0 != atBorder || back > 1 {
				t.Fatalf("%v: %d triangles go from %v to %v, and %d back", g, count, p, q, back)
			}
			if atBorder {
				open++
			}
		}
		openIs(t, "edges at the border", m, open)
	}
}

// TestSurfacesOfShapes measures shapes whose measures are known.
func TestSurfacesOfShapes(t *testing.T) {
	near := func(what string, got, want float32) {
		t.Helper()
		if toldSize(got-want) > want/5 {
			t.Errorf("%s is %v, but that of the shape %v", what, got, want)
		}
	}
	shell := shape(ball(1), node(impl.NodeShell, 0, 0, 0.6))
	apart := shape(ball(0.75), node(impl.NodeMove, 0, 0, 1, 1, 1), ball(0.75), node(impl.NodeMove, 2, 0, -1, -1, -1), node(impl.NodeUnion, 1, 3))
	for _, c := range []struct {
		what          string
		s             impl.Shape
		euler, pieces int64
		area, volume  float32
	}{
		{"a ball", shape(ball(1.5)), 2, 1, 28.27, 14.14},
		{"a box", shape(node(impl.NodeBox, 0, 0, 1.25, 1, 1.5)), 2, 1, 37, 15},
		{"two balls", apart, 4, 2, 14.14, 3.53},
		{"a ball in a ball", shell, 4, 2, 12.57*2.56 + 12.57*0.16, 4.19*4.096 - 4.19*0.064},
		{"a ring", shape(node(impl.NodeRing, 0, 0, 1.2, 0.5)), 0, 1, 23.69, 5.92},
		{"nothing", shape(ball(0)), 0, 0, 0, 0},
	} {
		g, ok := impl.FillGrid(c.s, vec(-2.05, -2.05, -2.05), 0.455, 10, 10, 10)
		equal(t, "FillGrid succeeds", ok, true)
		m := isClosed(t, c.what, g)
		eulerIs(t, c.what, m, c.euler)
		_, pieces, ok := impl.PiecesOf(m)
		countIs(t, c.what+", pieces", pieces, ok, c.pieces)
		area, ok := impl.AreaOf(m)
		equal(t, "AreaOf succeeds", ok, true)
		near(c.what+", the area", area, c.area)
		volume, ok := impl.VolumeInside(m)
		equal(t, "VolumeInside succeeds", ok, true)
		near(c.what+", the volume", volume, c.volume)
	}
}

// TestPlanesAreFlat checks that the surface of a plane has its normal at each place, and looks to where it is outside.
func TestPlanesAreFlat(t *testing.T) {
	r := rand.New(rand.NewSource(78))
	for range 100 {
		normal := vec(float32(r.Intn(9)-4), float32(r.Intn(9)-4), float32(r.Intn(9)-4))
		g, ok := impl.FillGrid(shape(plane(normal.X, normal.Y, normal.Z, r.Float32()-0.5)), vec(-1.5, -1.25, -1), 0.5, 6, 6, 6)
		equal(t, "FillGrid succeeds", ok, true)
		m, ok := impl.MeshOf(g)
		equal(t, "MeshOf succeeds", ok, true)
		normals, ok := impl.NormalsOf(m)
		equal(t, "NormalsOf succeeds", ok, true)
		unit := toldUnit(normal)
		for i, got := range normals {
			// A place at a point of the grid can have triangles without area alone.
			if off := toldTake(got, unit); got != (impl.Vector{}) && toldLong(off.X, off.Y, off.Z) > 0.01 {
				t.Fatalf("the normal of the plane %v at %v is %v", normal, m.Places[i], got)
			}
		}
	}
}

// resultsOfMeshes writes down what the functions of the chapter return, bit for bit.
func resultsOfMeshes(g impl.Grid, a, b impl.Mesh) string {
	var out strings.Builder
	vectors := func(list []impl.Vector) {
		for _, v := range list {
			fmt.Fprintf(&out, "%08x %08x %08x ", bitsOf(v.X), bitsOf(v.Y), bitsOf(v.Z))
		}
	}
	write := func(m impl.Mesh, ok bool) {
		vectors(m.Places)
		fmt.Fprint(&out, m.Triangles, ok)
	}
	value := func(x float32, ok bool) { fmt.Fprintf(&out, "%08x %v ", bitsOf(x), ok) }
	fmt.Fprint(&out, impl.ValidMesh(a), impl.SameMesh(a, b), impl.SameMesh(b, a), impl.SameMesh(a, a))
	write(impl.MeshOf(g))
	write(impl.FlipMesh(a))
	write(impl.TrimMesh(a))
	fmt.Fprint(&out, fmt.Sprint(impl.OpenEdges(a)), fmt.Sprint(impl.EulerOf(a)), fmt.Sprint(impl.PiecesOf(a)), fmt.Sprint(impl.UsedPlaces(a)), fmt.Sprint(impl.MeshText(a)))
	value(impl.AreaOf(a))
	value(impl.VolumeInside(a))
	normals, ok := impl.NormalsOf(a)
	vectors(normals)
	fmt.Fprint(&out, ok)
	return out.String()
}

// someMeshes has meshes of all sizes, valid ones and others.
func someMeshes() []impl.Mesh {
	r := rand.New(rand.NewSource(79))
	var list []impl.Mesh
	numbers := oddNumbers()
	for range 40 {
		list = append(list, oddMesh(r, numbers))
	}
	for _, meshes := range []map[string]impl.Mesh{validMeshes(), invalidMeshes()} {
		for _, what := range slices.Sorted(maps.Keys(meshes)) {
			list = append(list, meshes[what])
		}
	}
	return list
}

// TestMeshesReturnEqualResults calls every function of the chapter with all sorts of arguments, twice.
func TestMeshesReturnEqualResults(t *testing.T) {
	grids, meshes := someGrids(), someMeshes()
	for i, a := range meshes {
		g, b := grids[i%len(grids)], meshes[(i*7+1)%len(meshes)]
		first := resultsOfMeshes(g, a, b)
		equal(t, "functions of meshes", resultsOfMeshes(copyGrid(g), copyMesh(a), copyMesh(b)), first)
	}
	for _, g := range grids {
		equal(t, "functions of meshes", resultsOfMeshes(copyGrid(g), impl.Mesh{}, impl.Mesh{}), resultsOfMeshes(g, impl.Mesh{}, impl.Mesh{}))
	}
	empty := impl.Mesh{Places: []impl.Vector{}, Triangles: [][]int64{}}
	equal(t, "functions of empty lists", resultsOfMeshes(impl.Grid{}, empty, impl.Mesh{}), resultsOfMeshes(impl.Grid{}, impl.Mesh{}, empty))
	without, none := numberedMesh(3, []int64{}), numberedMesh(3, nil)
	equal(t, "functions of empty triangles", resultsOfMeshes(impl.Grid{}, without, none), resultsOfMeshes(impl.Grid{}, none, without))
}

// roomyMesh returns a mesh whose lists stand in greater arrays, and a function that writes down these.
func roomyMesh(m impl.Mesh) (impl.Mesh, func() string) {
	places := append(someLike(7), m.Places...)
	places = append(places, someLike(9)...)
	lists := repeatedTriangles(5, 7, 7, 7)
	for _, triangle := range m.Triangles {
		lists = append(lists, append(append([]int64{-5, -6}, triangle...), -7, -8, -9)[2:2+len(triangle)])
	}
	lists = append(lists, repeatedTriangles(11, 8, 8, 8)...)
	whole := func() string {
		var out strings.Builder
		fmt.Fprint(&out, places)
		for _, list := range lists {
			fmt.Fprint(&out, len(list), list[:cap(list)])
		}
		return out.String()
	}
	return mesh(places[7:7+len(m.Places)], lists[5:5+len(m.Triangles)]...), whole
}

func TestMeshesStayAsTheyAre(t *testing.T) {
	for _, meshes := range []map[string]impl.Mesh{validMeshes(), invalidMeshes()} {
		for what, m := range meshes {
			a, wholeA := roomyMesh(m)
			b, wholeB := roomyMesh(m)
			beforeA, beforeB := wholeA(), wholeB()
			resultsOfMeshes(impl.Grid{}, a, b)
			equal(t, what+", the mesh is as it was", wholeA() == beforeA, true)
			equal(t, what+", the other mesh is as it was", wholeB() == beforeB, true)
		}
	}
	for what, g := range validGrids() {
		given, array := roomyGrid(g)
		before := slices.Clone(array)
		resultsOfMeshes(given, impl.Mesh{}, impl.Mesh{})
		sameList(t, what+", the array of values", array, before)
	}
}

// overwriteMesh changes all of a mesh, its unused capacity too, and checks that no two lists share memory.
func overwriteMesh(t *testing.T, what string, m impl.Mesh) {
	t.Helper()
	for i, triangle := range m.Triangles {
		whole := triangle[:cap(triangle)]
		for k := range whole {
			whole[k] = int64(-100 - i)
		}
	}
	for i, triangle := range m.Triangles {
		for _, index := range triangle[:cap(triangle)] {
			equal(t, what+", the memory of a triangle", index, int64(-100-i))
		}
	}
	clear(m.Places[:cap(m.Places)])
	clear(m.Triangles[:cap(m.Triangles)])
}

// TestMeshesAreNew changes what was returned, which must not change what was given, nor what is returned later.
func TestMeshesAreNew(t *testing.T) {
	for what, m := range validMeshes() {
		kept := copyMesh(m)
		for name, call := range map[string]func() (impl.Mesh, bool){
			"FlipMesh": func() (impl.Mesh, bool) { return impl.FlipMesh(m) },
			"TrimMesh": func() (impl.Mesh, bool) { return impl.TrimMesh(m) },
			"MeshOf":   func() (impl.Mesh, bool) { return impl.MeshOf(wayGrid(len(m.Places))) },
		} {
			first, ok := call()
			equal(t, what+", "+name+" succeeds", ok, true)
			second, _ := call()
			want := copyMesh(first)
			overwriteMesh(t, what+", "+name, first)
			third, _ := call()
			equal(t, what+", "+name+", the mesh that was given", equalMeshes(m, kept), true)
			equal(t, what+", "+name+", the mesh that was returned before", equalMeshes(second, want), true)
			equal(t, what+", "+name+", the mesh that is returned later", equalMeshes(third, want), true)
		}
		for name, call := range map[string]func() ([]int64, bool){
			"UsedPlaces": func() ([]int64, bool) { return impl.UsedPlaces(m) },
			"PiecesOf":   func() ([]int64, bool) { pieces, _, ok := impl.PiecesOf(m); return pieces, ok },
		} {
			first, ok := call()
			equal(t, what+", "+name+" succeeds", ok, true)
			second, _ := call()
			want := fmt.Sprint(second)
			for i := range first[:cap(first)] {
				first[:cap(first)][i] = -77
			}
			third, _ := call()
			equal(t, what+", "+name+", the list that was returned before", fmt.Sprint(second) == want, true)
			equal(t, what+", "+name+", the list that is returned later", fmt.Sprint(third) == want, true)
		}
		normals, _ := impl.NormalsOf(m)
		before, _ := impl.NormalsOf(m)
		for i := range normals[:cap(normals)] {
			normals[:cap(normals)][i] = vec(5, 5, 5)
		}
		later, _ := impl.NormalsOf(m)
		equal(t, what+", normals", equalMeshes(mesh(before), mesh(later)), true)
		equal(t, what+", the mesh that was given", equalMeshes(m, kept), true)
	}
}
