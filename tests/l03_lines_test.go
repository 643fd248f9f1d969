package tests

import (
	"fmt"
	"math"
	"math/rand"
	"testing"

	"loop.example/g01193/impl"
)

func TestProbeLine(t *testing.T) {
	across := shape(probe(0))
	for _, c := range []struct {
		what  string
		s     impl.Shape
		a, b  impl.Vector
		count int64
		want  []float32
	}{
		{"one part", shape(ball(1)), vec(0, 0, 0), vec(2, 0, 0), 1, []float32{-1, 1}}, {"two parts", shape(ball(1)), vec(0, 0, 0), vec(2, 0, 0), 2, []float32{-1, 0, 1}},
		{"no way", shape(ball(1)), vec(0, 3, 0), vec(0, 3, 0), 3, []float32{2, 2, 2, 2}}, {"the other way", across, vec(4, 0, 0), vec(0, 0, 0), 4, []float32{4, 3, 2, 1, 0}},
		// The shares are quotients, each on its own.
		{"shares of three", across, vec(0, 0, 0), vec(1, 0, 0), 3, []float32{0, quotient(1, 3), quotient(2, 3), 1}},
		// With the share 1, the difference of both is added to a, which is not always b.
		{"a rounded end", across, vec(1, 0, 0), vec(0x1p-30, 0, 0), 1, []float32{1, 0}},
		{"an infinity", across, vec(0, 0, 0), vec(infinite, 0, 0), 2, []float32{notNumber, infinite, infinite}},
		{"a not-a-number", across, vec(1, 0, 0), vec(notNumber, 0, 0), 1, []float32{notNumber, notNumber}},
		{"a way that is too long", across, vec(-3e38, 0, 0), vec(3e38, 0, 0), 1, []float32{notNumber, infinite}},
	} {
		got, ok := impl.ProbeLine(c.s, c.a, c.b, c.count)
		equal(t, "ProbeLine of "+c.what+" succeeds", ok, true)
		sameList(t, "ProbeLine of "+c.what, got, c.want)
	}
	got, ok := impl.ProbeLine(across, vec(0, 0, 0), vec(1, 0, 0), 100)
	equal(t, "ProbeLine of 100 parts succeeds", ok, true)
	equal(t, "ProbeLine of 100 parts, length", len(got), 101)
	for k, d := range got {
		same(t, fmt.Sprint("ProbeLine of 100 parts, ", k), d, quotient(float32(k), 100))
	}
}

func TestProbeLineFails(t *testing.T) {
	for what, s := range invalidShapes() {
		got, ok := impl.ProbeLine(s, vec(0, 0, 0), vec(1, 0, 0), 1)
		failsList(t, "ProbeLine of "+what, got, ok)
	}
	for _, count := range []int64{0, -1, 101, 255, 256, 1 << 32, 1<<32 + 1, math.MinInt64, math.MaxInt64} {
		got, ok := impl.ProbeLine(shape(ball(1)), vec(0, 0, 0), vec(1, 0, 0), count)
		failsList(t, fmt.Sprint("ProbeLine of ", count, " parts"), got, ok)
	}
}

func TestSignChanges(t *testing.T) {
	for _, c := range []struct {
		list []float32
		want string
	}{
		{nil, "[]"}, {[]float32{}, "[]"}, {[]float32{-1}, "[]"}, {[]float32{1}, "[]"}, {[]float32{-1, 0, 1, -2}, "[0 2]"},
		{[]float32{1, 2, 3}, "[]"}, {[]float32{-1, -2, -3}, "[]"}, {[]float32{-1, 1, -1, 1, -1}, "[0 1 2 3]"}, {[]float32{2, 1, -1}, "[1]"},
		// Neither zeros nor not-a-numbers are less than 0, whatever their signs are.
		{[]float32{0, minusZero, 0}, "[]"}, {[]float32{-1, minusZero}, "[0]"}, {[]float32{minusZero, -1}, "[0]"}, {[]float32{1, minusZero, 1}, "[]"}, {[]float32{-1, 0, -1}, "[0 1]"},
		{[]float32{notNumber, num(0xffc00000), 1}, "[]"}, {[]float32{-1, notNumber}, "[0]"}, {[]float32{num(0xff800001), -1, notNumber}, "[0 1]"}, {[]float32{notNumber, 0, minusZero}, "[]"},
		{[]float32{-infinite, infinite, -infinite}, "[0 1]"}, {[]float32{num(0x80000001), num(1)}, "[0]"}, {[]float32{num(0x80000001), 0}, "[0]"},
	} {
		got, ok := impl.SignChanges(c.list)
		equal(t, "SignChanges succeeds", ok, true)
		equal(t, fmt.Sprint("SignChanges of ", c.list), fmt.Sprint(got), c.want)
	}
	list := filled(257, 1)
	list[0], list[255] = -1, -1
	got, ok := impl.SignChanges(list[:256])
	equal(t, "SignChanges of 256 numbers succeeds", ok, true)
	equal(t, "SignChanges of 256 numbers", fmt.Sprint(got), "[0 254]")
	got, ok = impl.SignChanges(list)
	failsList(t, "SignChanges of 257 numbers", got, ok)
	got, ok = impl.SignChanges(filled(100000, 1))
	failsList(t, "SignChanges of many numbers", got, ok)
}

// TestChangesOfMany compares with the products of neighbours, for lists of all lengths.
func TestChangesOfMany(t *testing.T) {
	r := rand.New(rand.NewSource(24))
	for count := range impl.MaxNumbers + 1 {
		list := make([]float32, count)
		for i := range list {
			list[i] = float32(r.Intn(2)*2 - 1)
		}
		var want []int64
		for i := range max(0, count-1) {
			if list[i]*list[i+1] < 0 {
				want = append(want, int64(i))
			}
		}
		got, ok := impl.SignChanges(list)
		equal(t, "SignChanges succeeds", ok, true)
		equal(t, "SignChanges", fmt.Sprint(got), fmt.Sprint(want))
	}
}

func failsCrossing(t *testing.T, what string, a, b impl.Vector, ok bool) {
	t.Helper()
	fails(t, what+", first", a, ok)
	fails(t, what+", second", b, ok)
}

func crossingIs(t *testing.T, what string, s impl.Shape, a, b impl.Vector, rounds int64, wantA, wantB impl.Vector) {
	t.Helper()
	gotA, gotB, ok := impl.CrossingAt(s, a, b, rounds)
	equal(t, what+" succeeds", ok, true)
	sameVector(t, what+", first", gotA, wantA)
	sameVector(t, what+", second", gotB, wantB)
}

func TestCrossingAt(t *testing.T) {
	s, in, out := shape(ball(1)), vec(0, 0, 0), vec(4, 0, 0)
	crossingIs(t, "no round", s, in, out, 0, in, out)
	crossingIs(t, "no round, from outside", s, out, in, 0, out, in)
	crossingIs(t, "no round, with zeros", s, vec(minusZero, 0, minusZero), vec(4, minusZero, 0), 0, vec(minusZero, 0, minusZero), vec(4, minusZero, 0))
	crossingIs(t, "one round", s, in, out, 1, in, vec(2, 0, 0))
	// The middle is at the surface then, which is not inside.
	crossingIs(t, "two rounds", s, in, out, 2, in, vec(1, 0, 0))
	crossingIs(t, "three rounds", s, in, out, 3, vec(0.5, 0, 0), vec(1, 0, 0))
	crossingIs(t, "one round from outside", s, out, in, 1, vec(2, 0, 0), in)
	crossingIs(t, "three rounds from outside", s, out, in, 3, vec(1, 0, 0), vec(0.5, 0, 0))
	crossingIs(t, "60 rounds", s, in, out, 60, vec(num(0x3f7fffff), 0, 0), vec(1, 0, 0))
	crossingIs(t, "60 rounds from outside", s, out, in, 60, vec(1, 0, 0), vec(num(0x3f7fffff), 0, 0))
	// At -0, it is outside, so the middle comes nearer to it in each round.
	crossingIs(t, "60 rounds to 0", shape(probe(0)), vec(-1, 0, 0), vec(minusZero, 0, 0), 60, vec(-0x1p-60, 0, 0), vec(minusZero, 0, 0))
	crossingIs(t, "a point at infinity", s, in, vec(infinite, 0, 0), 3, in, vec(infinite, 0, 0))
	crossingIs(t, "a point that is none", s, vec(notNumber, 1, 2), in, 60, vec(notNumber, 0x1p-60, 0x1p-59), in)
}

// TestCrossingsAreNear checks that both points stay on their sides, on the line, and as near to each other as told.
func TestCrossingsAreNear(t *testing.T) {
	r := rand.New(rand.NewSource(25))
	found := 0
	for i := range 4000 {
		s := randomShape(r, 1+i%impl.MaxNodes, kindRows())
		a, b, rounds := randomPoint(r, 4), randomPoint(r, 4), int64(r.Intn(20))
		first, second, ok := impl.CrossingAt(s, a, b, rounds)
		equal(t, "CrossingAt succeeds", ok, impl.IsInside(s, a) != impl.IsInside(s, b))
		if !ok {
			continue
		}
		found++
		equal(t, "the first one is where it was", impl.IsInside(s, first), impl.IsInside(s, a))
		equal(t, "the second one is where it was", impl.IsInside(s, second), impl.IsInside(s, b))
		before, after := impl.LongOf(impl.LessVectors(b, a)), impl.LongOf(impl.LessVectors(second, first))
		if math.Abs(float64(after)-float64(before)/math.Pow(2, float64(rounds))) > 1e-5 {
			t.Errorf("behind %d rounds, points that were apart by %v are so by %v", rounds, before, after)
		}
	}
	if found < 500 {
		t.Errorf("only %d crossings were looked at", found)
	}
}

func TestCrossingAtFails(t *testing.T) {
	s, in, out := shape(ball(1)), vec(0, 0, 0), vec(4, 0, 0)
	for what, s := range invalidShapes() {
		a, b, ok := impl.CrossingAt(s, in, out, 2)
		failsCrossing(t, "CrossingAt of "+what, a, b, ok)
	}
	for _, rounds := range []int64{-1, 61, 1 << 32, math.MinInt64, math.MaxInt64} {
		a, b, ok := impl.CrossingAt(s, in, out, rounds)
		failsCrossing(t, fmt.Sprint("CrossingAt of ", rounds, " rounds"), a, b, ok)
	}
	for _, rounds := range []int64{0, 2, 60} {
		for _, c := range []struct {
			what string
			a, b impl.Vector
		}{
			{"both inside", in, vec(0.5, 0, 0)}, {"the same point inside", in, in}, {"none inside", vec(2, 0, 0), out}, {"both sides outside", vec(-4, 0, 0), out},
			{"one at the surface", vec(1, 0, 0), out}, {"none a number", vec(notNumber, 0, 0), out}, {"infinities", vec(infinite, 0, 0), vec(-infinite, 0, 0)},
		} {
			a, b, ok := impl.CrossingAt(s, c.a, c.b, rounds)
			failsCrossing(t, "CrossingAt with "+c.what, a, b, ok)
		}
	}
}
