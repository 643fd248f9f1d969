package tests

import (
	"fmt"
	"math/rand"
	"slices"
	"strings"
	"testing"

	"loop.example/g01193/impl"
)

// halfOf returns the middle of two corners of the cell from 0, 0, 0 to 1, 1, 1.
func halfOf(first, second int) impl.Vector {
	p, q := toldCorner(at{}, first), toldCorner(at{}, second)
	return vec(float32(p[0]+q[0])/2, float32(p[1]+q[1])/2, float32(p[2]+q[2])/2)
}

// cornerOf returns a corner of this cell.
func cornerOf(number int) impl.Vector { return halfOf(number, number) }

// TestCellsByHand has the places and triangles of some ways, as one finds them with a pencil.
func TestCellsByHand(t *testing.T) {
	for _, c := range []struct {
		inside    string
		edges     string
		triangles string
	}{
		{"0", "01 03 07 05 02 06 04", "0,1,2 0,2,3 4,2,1 4,5,2 6,3,2 6,2,5"},
		{"1234567", "01 07 03 05 02 06 04", "0,1,2 0,3,1 4,2,1 4,1,5 6,1,3 6,5,1"},
		{"7", "07 37 17 57 27 67 47", "0,1,2 0,2,3 0,4,1 0,5,4 0,3,6 0,6,5"},
		{"0123456", "07 17 37 57 27 67 47", "0,1,2 0,3,1 0,2,4 0,4,5 0,6,3 0,5,6"},
		{"1", "01 17 13 15", "0,1,2 0,3,1"},
		{"3", "03 13 37 23", "0,1,2 0,2,3"},
		{"2", "02 27 23 26", "0,2,1 0,1,3"},
		{"03", "07 01 13 37 05 02 23 06 04", "0,1,2 0,2,3 1,0,4 0,6,5 0,3,6 5,7,0 8,4,0 8,0,7"},
		{"17", "13 01 07 37 15 57 27 67 47", "0,1,2 0,2,3 4,2,1 4,5,2 2,6,3 2,7,6 2,5,8 2,8,7"},
		{"01", "03 07 17 13 05 15 02 06 04", "0,1,2 0,2,3 4,2,1 4,5,2 6,1,0 6,7,1 8,4,1 8,1,7"},
	} {
		way := 0
		for _, corner := range c.inside {
			way |= 1 << (corner - '0')
		}
		var want impl.Mesh
		for _, ends := range strings.Fields(c.edges) {
			want.Places = append(want.Places, halfOf(int(ends[0]-'0'), int(ends[1]-'0')))
		}
		for _, list := range strings.Fields(c.triangles) {
			var triangle [3]int64
			_, err := fmt.Sscanf(list, "%d,%d,%d", &triangle[0], &triangle[1], &triangle[2])
			equal(t, "the list is read", err, nil)
			want.Triangles = append(want.Triangles, triangle[:])
		}
		got, ok := impl.MeshOf(wayGrid(way))
		makesMesh(t, "the corners "+c.inside, got, ok, want)
	}
}

// endsOf returns the corners of the edge whose middle is a place: only one edge of a quarter has each middle.
func endsOf(t *testing.T, place impl.Vector) (int, int) {
	t.Helper()
	for p := range 8 {
		for q := range 8 {
			if p != q && p&q == p && halfOf(p, q) == place {
				return p, q
			}
		}
	}
	t.Fatalf("no edge has the middle %v", place)
	return 0, 0
}

// TestWaysOfACell makes the mesh of each way in which corners can be inside. Without the tables of the second version, it
// checks that each place is on an edge that the surface crosses, and each triangle is seen from outside.
func TestWaysOfACell(t *testing.T) {
	for way := range 256 {
		what := fmt.Sprintf("the way %08b", way)
		isInside := func(corner int) bool { return way>>corner&1 == 1 }
		m, ok := impl.MeshOf(wayGrid(way))
		makesMesh(t, what, m, ok, toldMesh(wayGrid(way)))
		crossed := 0
		for p := range 8 {
			for q := p + 1; q < 8; q++ {
				if p&q == p && isInside(p) != isInside(q) {
					crossed++
				}
			}
		}
		equal(t, what+", places", len(m.Places), crossed)
		used, ok := impl.UsedPlaces(m)
		equal(t, what+", UsedPlaces succeeds", ok, true)
		equal(t, what+", places that are used", len(used), crossed)
		for _, triangle := range m.Triangles {
			a, b, c := m.Places[triangle[0]], m.Places[triangle[1]], m.Places[triangle[2]]
			normal := toldCross(toldTake(b, a), toldTake(c, a))
			for _, place := range []impl.Vector{a, b, c} {
				p, q := endsOf(t, place)
				equal(t, what+", one end is inside", isInside(p) != isInside(q), true)
				if isInside(q) {
					p, q = q, p
				}
				out := toldTake(cornerOf(q), cornerOf(p))
				equal(t, what+", seen from outside", toldInner(normal, out) > 0, true)
			}
		}
	}
}

// TestQuartersFillTheCell checks the quarters of the second version, which the program is compared with: they go from the
// first corner to the last one in all the ways that there are, and those that go the other way round are turned.
func TestQuartersFillTheCell(t *testing.T) {
	seen := map[[4]int]bool{}
	for _, quarter := range toldQuarters() {
		c := quarter.corners
		seen[c] = true
		equal(t, "the first and the last corner", fmt.Sprint(c[0], c[3]), "0 7")
		for i := range 3 {
			step := c[i+1] - c[i]
			equal(t, "a step along one axis", step == 1 || step == 2 || step == 4, true)
		}
		turns := toldInner(toldCross(cornerOf(c[1]), cornerOf(c[2])), cornerOf(c[3]))
		equal(t, fmt.Sprint("the quarter ", c, " is turned"), turns < 0, quarter.turned)
	}
	equal(t, "different quarters", len(seen), 6)
}

// TestPlacesOfEdges has the first corner with one value, and all other ones with another value.
func TestPlacesOfEdges(t *testing.T) {
	third := quotient(1, 3)
	for _, c := range []struct {
		a, b  float32
		share float32
	}{
		{-1, 1, 0.5}, {1, -1, 0.5}, {-1, 3, 0.25}, {-3, 1, 0.75}, {3, -1, 0.75}, {-1, 2, third}, {2, -1, quotient(2, 3)},
		{-1, 0, 1}, {-1, minusZero, 1}, {0, -1, 0}, {minusZero, -1, minusZero}, {-num(1), 0, 1}, {0, -num(1), 0},
		{-num(1), num(1), 0.5}, {num(1), -num(1), 0.5}, {-num(1), num(3), 0.25}, {-num(1), 1, num(1)}, {num(1), -1, num(1)}, {-1, num(1), 1},
		{-num(0x007fffff), num(0x007fffff), 0.5}, {-num(0x00800000), num(1), quotient(num(0x00800000), num(0x00800001))},
		{-greatest, greatest, 0}, {greatest, -greatest, 0}, {-greatest, 0, 1}, {-greatest, greatest / 2, 0}, {-greatest, 1, 1}, {-1, greatest, quotient(1, greatest)},
		{-1, infinite, 0}, {1, -infinite, 0}, {-infinite, 1, notNumber}, {infinite, -1, notNumber}, {-infinite, infinite, notNumber},
		{-infinite, 0, notNumber}, {0, -infinite, 0}, {minusZero, -infinite, minusZero}, {infinite, -infinite, notNumber}, {-infinite, greatest, notNumber},
		{-1, notNumber, notNumber}, {notNumber, -1, notNumber}, {-infinite, notNumber, notNumber}, {num(0xffc00000), -1, notNumber},
	} {
		what := fmt.Sprint("the values ", c.a, " and ", c.b)
		g := levelGrid(2, 2, 2, c.b)
		g.Values[0] = c.a
		m, ok := impl.MeshOf(g)
		makesMesh(t, what, m, ok, toldMesh(g))
		if len(m.Places) != 7 || len(m.Triangles) != 6 {
			t.Errorf("%s: %d places, %d triangles", what, len(m.Places), len(m.Triangles))
			continue
		}
		sameVector(t, what+", the first place", m.Places[0], vec(sum(0, c.share), sum(0, product(c.share, 0)), sum(0, product(c.share, 0))))
		g.Low, g.Step = vec(-0.3, 5, greatest), 0.7
		m, ok = impl.MeshOf(g)
		makesMesh(t, what+", elsewhere", m, ok, toldMesh(g))
		far := product(difference(sum(-0.3, 0.7), -0.3), c.share)
		sameVector(t, what+", elsewhere, the first place", m.Places[0], vec(sum(-0.3, far), sum(5, product(c.share, 0)), sum(greatest, product(c.share, 0))))
	}
}

// TestValuesThatAreOutside has zeros and values that are no numbers, which are not less than 0.
func TestValuesThatAreOutside(t *testing.T) {
	for _, x := range []float32{0, minusZero, num(1), num(0x007fffff), 1, greatest, infinite, notNumber, num(0xffc00000), num(0xff800001)} {
		m, ok := impl.MeshOf(levelGrid(3, 3, 3, x))
		makesMesh(t, fmt.Sprint("all values ", x), m, ok, impl.Mesh{})
		for _, y := range []float32{-num(1), -1, -greatest, -infinite} {
			g := levelGrid(3, 3, 3, x)
			g.Values[13] = y
			m, ok := impl.MeshOf(g)
			makesMesh(t, fmt.Sprint("the value ", y, " among ", x), m, ok, toldMesh(g))
			equal(t, fmt.Sprint("the value ", y, " among ", x, ", triangles"), len(m.Triangles), 24)
			openIs(t, fmt.Sprint("the value ", y, " among ", x), m, 0)
			m, ok = impl.MeshOf(levelGrid(3, 3, 3, y))
			makesMesh(t, fmt.Sprint("all values ", y), m, ok, impl.Mesh{})
		}
	}
}

// TestGridsWithoutCells has one point along an axis, and points on both sides of the surface.
func TestGridsWithoutCells(t *testing.T) {
	for _, c := range [][3]int64{{1, 1, 1}, {1, 16, 16}, {16, 1, 16}, {16, 16, 1}, {16, 1, 1}, {1, 16, 1}, {1, 1, 16}, {2, 2, 1}, {2, 1, 2}, {1, 2, 2}} {
		g := levelGrid(c[0], c[1], c[2], 1)
		for i := range g.Values {
			g.Values[i] -= float32(i%3) * 2
		}
		m, ok := impl.MeshOf(g)
		makesMesh(t, fmt.Sprint("the counts ", c), m, ok, impl.Mesh{})
	}
	m, ok := impl.MeshOf(unitGrid(1, 1, 1, -1))
	makesMesh(t, "one point inside", m, ok, impl.Mesh{})
}

// TestSharedEdges has a point inside alone, whose edges go to 14 others, each of them in several quarters and cells.
func TestSharedEdges(t *testing.T) {
	g := levelGrid(3, 3, 3, 1)
	g.Values[13] = -1
	m, ok := impl.MeshOf(g)
	makesMesh(t, "a point alone", m, ok, toldMesh(g))
	equal(t, "its places", len(m.Places), 14)
	equal(t, "its triangles", len(m.Triangles), 24)
	seen := map[impl.Vector]bool{}
	for _, p := range m.Places {
		seen[p] = true
	}
	equal(t, "its places are different", len(seen), 14)
	sameVector(t, "its first place, of the first cell", m.Places[0], vec(0.5, 0.5, 0.5))
	sameVector(t, "its last place, of the last cell", m.Places[13], vec(1.5, 1.5, 1.5))
	openIs(t, "a point alone", m, 0)
	eulerIs(t, "a point alone", m, 2)
}

// TestOrderOfCells has the corners of a grid inside, each of which is in one cell.
func TestOrderOfCells(t *testing.T) {
	g := levelGrid(3, 4, 5, 1)
	var want []impl.Vector
	for _, z := range []int64{0, 4} {
		for _, y := range []int64{0, 3} {
			for _, x := range []int64{0, 2} {
				g.Values[x+3*(y+4*z)] = -1
				want = append(want, vec(float32(x), float32(y), float32(z)))
			}
		}
	}
	m, ok := impl.MeshOf(g)
	makesMesh(t, "corners inside", m, ok, toldMesh(g))
	nearest := func(p impl.Vector) impl.Vector {
		return slices.MinFunc(want, func(a, b impl.Vector) int {
			return int(100*toldLong(p.X-a.X, p.Y-a.Y, p.Z-a.Z)) - int(100*toldLong(p.X-b.X, p.Y-b.Y, p.Z-b.Z))
		})
	}
	var places, triangles []impl.Vector
	for _, p := range m.Places {
		places = append(places, nearest(p))
	}
	for _, triangle := range m.Triangles {
		triangles = append(triangles, nearest(m.Places[triangle[0]]))
	}
	equal(t, "corners in the order of places", fmt.Sprint(slices.Compact(places)), fmt.Sprint(want))
	equal(t, "corners in the order of triangles", fmt.Sprint(slices.Compact(triangles)), fmt.Sprint(want))
}

// TestGreatestMeshes has two triangles in each quarter of the grids with the most cells, and all edges crossed.
func TestGreatestMeshes(t *testing.T) {
	most := 0
	for x := range int64(17) {
		for y := range int64(17) {
			z := min(16, 1024/max(1, x*y))
			if x < 2 || y < 2 || z < 2 {
				continue
			}
			g := levelGrid(x, y, z, 1)
			order, _ := toldAll(g)
			for i, p := range order {
				if (p[0]+p[1]+p[2])%2 == 1 {
					g.Values[i] = -1
				}
			}
			m, ok := impl.MeshOf(g)
			equal(t, "MeshOf succeeds", ok, true)
			equal(t, "triangles", int64(len(m.Triangles)), 12*(x-1)*(y-1)*(z-1))
			equal(t, fmt.Sprint("the mesh of ", x, y, z, " is valid"), impl.ValidMesh(m), true)
			most = max(most, len(m.Triangles))
		}
	}
	equal(t, "the most triangles", most, 12*7*7*15)
	r := rand.New(rand.NewSource(75))
	for _, c := range [][3]int64{{10, 10, 10}, {16, 8, 8}, {16, 16, 4}, {4, 16, 16}} {
		g := levelGrid(c[0], c[1], c[2], 1)
		for i := range g.Values {
			g.Values[i] = r.Float32() - 0.5
		}
		m, ok := impl.MeshOf(g)
		makesMesh(t, fmt.Sprint("random values, ", c), m, ok, toldMesh(g))
	}
}

func TestMeshOfFails(t *testing.T) {
	for what, g := range invalidGrids() {
		m, ok := impl.MeshOf(g)
		failsMesh(t, what, m, ok)
	}
	for what, g := range validGrids() {
		m, ok := impl.MeshOf(g)
		makesMesh(t, what, m, ok, toldMesh(g))
	}
}
