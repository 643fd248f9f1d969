package tests

import (
	"fmt"
	"math"
	"strings"
	"testing"

	"loop.example/g01193/impl"
)

// TestExamplesOfChapter1 asserts the examples at the end of the chapter.
func TestExamplesOfChapter1(t *testing.T) {
	equal(t, "the bits of 1", impl.BitsOf(1), 1065353216)
	text, ok := impl.NumbersText([]float32{1})
	equal(t, "the text of 1 is there", ok, true)
	equal(t, "the text of 1", text, "3f800000")
	least, ok := impl.FromBits(1)
	equal(t, "the number with the bits 1 is there", ok, true)
	same(t, "the number with the bits 1, flushed", impl.FlushNumber(least), 0)
	same(t, "the sine of 0.25 turns", impl.SineTurns(0.25), 1)
	same(t, "the angle of 1 and 0", impl.AngleTurns(1, 0), 0.25)
	same(t, "the angle of 0 and -2", impl.AngleTurns(0, -2), 0.5)
	sameVector(t, "the cross", impl.CrossOf(vec(1, 0, 0), vec(0, 1, 0)), vec(0, 0, 1))
	same(t, "the length", impl.LongOf(vec(3, 4, 0)), 5)
}

func TestLimitsOfChapter1(t *testing.T) {
	equal(t, "MaxNumbers", impl.MaxNumbers, 256)
	equal(t, "MaxValue", impl.MaxValue, 1000000000000000)
	equal(t, "MaxItems", impl.MaxItems, 64)
	equal(t, "CheckSize", impl.CheckSize, 65003)
}

// resultsOfNumbers writes down what the functions of one or two numbers return, bit for bit.
func resultsOfNumbers(x, y float32) string {
	var out strings.Builder
	for _, r := range []float32{
		impl.NextUp(x), impl.NextDown(x), impl.FlushNumber(x), impl.ExpNumber(x), impl.LogNumber(x), impl.RootNumber(x),
		impl.SineTurns(x), impl.AngleTurns(y, x), impl.NarrowNumber(float64(x) * float64(y)),
	} {
		fmt.Fprintf(&out, "%08x ", bitsOf(r))
	}
	fmt.Fprint(&out, impl.BitsOf(x), impl.IsFinite(x), impl.IsSubnormal(x), impl.SameNumber(x, y))
	return out.String()
}

// resultsOfVectors does the same for the functions of vectors.
func resultsOfVectors(a, b impl.Vector, by float32) string {
	var out strings.Builder
	for _, v := range []impl.Vector{
		impl.AddVectors(a, b), impl.LessVectors(a, b), impl.ScaleVector(a, by), impl.CrossOf(a, b), impl.BetweenVectors(a, b, by),
		{X: impl.InnerOf(a, b), Y: impl.LongOf(a)},
	} {
		fmt.Fprintf(&out, "%08x %08x %08x ", bitsOf(v.X), bitsOf(v.Y), bitsOf(v.Z))
	}
	fmt.Fprint(&out, impl.SameVector(a, b), impl.VectorText(a))
	return out.String()
}

// resultsOfLists does the same for the functions of lists.
func resultsOfLists(a, b []float32, list []int64) string {
	var out strings.Builder
	for _, call := range []func() (float32, bool){
		func() (float32, bool) { return impl.SumNumbers(a) }, func() (float32, bool) { return impl.SumPairs(a) },
		func() (float32, bool) { return impl.DotNumbers(a, b) }, func() (float32, bool) { return impl.DotWide(a, b) },
	} {
		x, ok := call()
		fmt.Fprintf(&out, "%08x %v ", bitsOf(x), ok)
	}
	fmt.Fprintln(&out, fmt.Sprint(impl.NumbersText(a)), fmt.Sprint(impl.ListText(list)))
	return out.String()
}

// resultsOfTexts does the same for the functions of texts.
func resultsOfTexts(s string, n int64) string {
	var out strings.Builder
	numbers, ok := impl.ReadNumbers(s)
	for _, x := range numbers {
		fmt.Fprintf(&out, "%08x ", bitsOf(x))
	}
	v, ok1 := impl.ReadVector(s)
	fmt.Fprint(&out, ok, impl.VectorText(v), ok1, impl.IsName(s), impl.Decimal(n))
	fmt.Fprint(&out, fmt.Sprint(impl.ReadDecimal(s)), fmt.Sprint(impl.ReadList(s)), fmt.Sprint(impl.CheckOf(n, s)))
	x, ok := impl.FromBits(n)
	fmt.Fprintf(&out, "%08x %v", bitsOf(x), ok)
	return out.String()
}

// oddTexts are texts of all kinds, most of which are no text of anything.
func oddTexts() []string {
	return []string{
		"", "none", "a", "name", ",", "-", "0", "-1", "3f800000", "3f800000,00000000,80000000", "7fc00001", "1,2,-3", "\x00", "\xff\xfe", "ä",
		strings.Repeat(",", 100000), strings.Repeat("9", 100000), repeated("00000000", 256), repeated("00000000", 257), repeated("0", 64), repeated("0", 65),
		strings.Repeat("none,", 1000), strings.Repeat("\n", 70), strings.Repeat("f", 8), "-9223372036854775808", "9223372036854775808",
	}
}

func oddIntegers() []int64 {
	return []int64{0, 1, -1, 64, 65002, 65003, 1 << 31, 1 << 32, 1<<32 - 1, impl.MaxValue, impl.MaxValue + 1, -impl.MaxValue, -impl.MaxValue - 1, math.MaxInt64, math.MinInt64}
}

// TestNumbersReturnEqualResults calls every function of the chapter with all sorts of arguments, twice.
func TestNumbersReturnEqualResults(t *testing.T) {
	numbers := manyNumbers(300)
	for _, x := range numbers {
		for _, y := range numbers[:60] {
			equal(t, "functions of numbers", resultsOfNumbers(x, y), resultsOfNumbers(x, y))
		}
	}
	vectors := manyVectors(300)
	for i, a := range vectors {
		b, by := vectors[(i+17)%len(vectors)], numbers[(i+29)%len(numbers)]
		equal(t, "functions of vectors", resultsOfVectors(a, b, by), resultsOfVectors(a, b, by))
	}
	for _, s := range oddTexts() {
		for _, n := range oddIntegers() {
			equal(t, "functions of texts", resultsOfTexts(s, n), resultsOfTexts(s, n))
		}
	}
	for _, count := range []int{0, 1, 2, 3, 64, 65, 255, 256, 257, 1000, 100000} {
		a, b, list := filled(count, 0.1), filled(count, notNumber), make([]int64, count)
		equal(t, "functions of lists", resultsOfLists(a, b, list), resultsOfLists(a, b, list))
		equal(t, "functions of lists", resultsOfLists(a, nil, nil), resultsOfLists(a, []float32{}, []int64{}))
	}
}

// TestListsStayAsTheyAre looks at whole arrays, their unused capacity too.
func TestListsStayAsTheyAre(t *testing.T) {
	for _, count := range []int{0, 1, 2, 7, 64, 256, 257} {
		numbers, others, integers := filled(300, 1.5), filled(300, minusZero), make([]int64, 300)
		for i := range numbers {
			numbers[i] += float32(i)
			integers[i] = int64(1000 - i)
		}
		resultsOfLists(numbers[:count], others[:count], integers[:count])
		for i := range numbers {
			same(t, "a number of the list", numbers[i], 1.5+float32(i))
			same(t, "a number of the other list", others[i], minusZero)
			equal(t, "an integer of the list", integers[i], int64(1000-i))
		}
	}
}

// TestListsAreNew changes what was returned, which must not change what is returned later.
func TestListsAreNew(t *testing.T) {
	for _, s := range []string{"3f800000", repeated("3f800000", 256)} {
		first, _ := impl.ReadNumbers(s)
		second, _ := impl.ReadNumbers(s)
		clear(first[:cap(first)])
		third, _ := impl.ReadNumbers(s)
		same(t, "a list returned before", second[0], 1)
		same(t, "a list returned after", third[0], 1)
	}
	for _, s := range []string{"7", repeated("7", 64)} {
		first, _ := impl.ReadList(s)
		second, _ := impl.ReadList(s)
		clear(first[:cap(first)])
		third, _ := impl.ReadList(s)
		equal(t, "a list returned before", second[0], 7)
		equal(t, "a list returned after", third[0], 7)
	}
}
