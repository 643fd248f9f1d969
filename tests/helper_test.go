package tests

import (
	"math"
	"testing"

	"loop.example/g01193/impl"
)

var (
	minusZero = float32(math.Copysign(0, -1))
	infinite  = float32(math.Inf(1))
	notNumber = float32(math.NaN())
)

// num makes a number from its bits without the program.
func num(bits uint32) float32 { return math.Float32frombits(bits) }

// bitsOf tells the bits of a number without the program, with one value for all not-a-numbers.
func bitsOf(x float32) uint32 {
	if math.IsNaN(float64(x)) {
		return 0x7fc00000
	}
	return math.Float32bits(x)
}

func same(t *testing.T, what string, got, want float32) {
	t.Helper()
	if bitsOf(got) != bitsOf(want) {
		t.Errorf("%s: got %v (%08x), want %v (%08x)", what, got, bitsOf(got), want, bitsOf(want))
	}
}

func sameVector(t *testing.T, what string, got, want impl.Vector) {
	t.Helper()
	same(t, what+", X", got.X, want.X)
	same(t, what+", Y", got.Y, want.Y)
	same(t, what+", Z", got.Z, want.Z)
}

func equal[T comparable](t *testing.T, what string, got, want T) {
	t.Helper()
	if got != want {
		t.Errorf("%s: got %v, want %v", what, got, want)
	}
}

// succeeds and fails take the two results of a call, behind the ones that name it.
func succeeds(t *testing.T, what string, got float32, ok bool, want float32) {
	t.Helper()
	equal(t, what+" succeeds", ok, true)
	same(t, what, got, want)
}

func fails[T comparable](t *testing.T, what string, got T, ok bool) {
	t.Helper()
	var zero T
	equal(t, what+" succeeds", ok, false)
	equal(t, what, got, zero)
}

// failsList is fails for slices.
func failsList[T any](t *testing.T, what string, got []T, ok bool) {
	t.Helper()
	equal(t, what+" succeeds", ok, false)
	equal(t, what+", length", len(got), 0)
}

func sameList(t *testing.T, what string, got, want []float32) {
	t.Helper()
	equal(t, what+", length", len(got), len(want))
	for i := range min(len(got), len(want)) {
		same(t, what, got[i], want[i])
	}
}

// oddNumbers are numbers at the edges of what the document names.
func oddNumbers() []float32 {
	list := []float32{
		num(0x7f800001), num(0x7fffffff), num(0xffc00000), num(0xff800001),
		num(0x7f800000), num(0xff800000), num(0x7f7fffff), num(0xff7fffff),
		num(0x00000000), num(0x80000000), num(0x00000001), num(0x80000001),
		num(0x007fffff), num(0x807fffff), num(0x00800000), num(0x80800000),
	}
	for _, x := range []float32{0.125, 0.25, 0.5, 0.75, 1, 1.5, 2, 3, 200, 1 << 22, 1 << 23, 1 << 24, 1 << 51, 1 << 52, 1 << 62, 1e20, 1e-20} {
		bits := math.Float32bits(x)
		list = append(list, x, -x, num(bits+1), num(bits-1), -num(bits+1), -num(bits-1))
	}
	return list
}

// manyNumbers returns the odd numbers and count others of all sizes, always the same ones.
func manyNumbers(count int) []float32 {
	list := oddNumbers()
	state := uint64(88172645463325252)
	for i := range count {
		state ^= state << 13
		state ^= state >> 7
		state ^= state << 17
		if i%2 == 0 {
			list = append(list, num(uint32(state>>20)))
		} else {
			list = append(list, float32(int32(state>>24))/(1<<24))
		}
	}
	return list
}
