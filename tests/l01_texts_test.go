package tests

import (
	"fmt"
	"math"
	"strconv"
	"strings"
	"testing"

	"loop.example/g01193/impl"
)

// repeated returns the text of a list of count equal words.
func repeated(word string, count int) string {
	return strings.Repeat(word+",", count-1) + word
}

func TestNumbersText(t *testing.T) {
	for _, c := range []struct {
		list []float32
		want string
	}{
		{nil, "none"}, {[]float32{}, "none"}, {[]float32{1}, "3f800000"}, {[]float32{1, -2}, "3f800000,c0000000"},
		{[]float32{0, minusZero, num(1), infinite, -infinite}, "00000000,80000000,00000001,7f800000,ff800000"},
		{[]float32{notNumber, num(0x7f800001), num(0xffffffff), num(0xffc00000)}, "7fc00000,7fc00000,7fc00000,7fc00000"},
		{[]float32{num(0x00abcdef)}, "00abcdef"}, {filled(256, 1), repeated("3f800000", 256)},
	} {
		got, ok := impl.NumbersText(c.list)
		equal(t, "NumbersText succeeds", ok, true)
		equal(t, "NumbersText", got, c.want)
		back, ok := impl.ReadNumbers(c.want)
		equal(t, "ReadNumbers succeeds", ok, true)
		sameList(t, "ReadNumbers", back, c.list)
	}
	got, ok := impl.NumbersText(filled(257, 1))
	fails(t, "NumbersText of one too many", got, ok)
	list := manyNumbers(150)[:256]
	for _, x := range list {
		got, ok := impl.NumbersText([]float32{x})
		equal(t, "NumbersText succeeds", ok, true)
		equal(t, "NumbersText", got, fmt.Sprintf("%08x", bitsOf(x)))
	}
	all, _ := impl.NumbersText(list)
	back, ok := impl.ReadNumbers(all)
	equal(t, "ReadNumbers succeeds", ok, true)
	sameList(t, "ReadNumbers", back, list)
}

func TestReadNumbersFails(t *testing.T) {
	for _, s := range []string{
		"", ",", "3F800000", "3f80000", "3f8000000", "03f800000", "+3f80000", "-3f80000", "0x3f8000", "3f80_000", "3f80000g",
		"3f800000,", ",3f800000", "3f800000,,3f800000", "3f800000 ,3f800000", "3f800000, 3f800000", "3f800000;3f800000",
		" 3f800000", "3f800000 ", "3f800000\n", "none,3f800000", "3f800000,none", "None", "NONE", "none ", "none,", "non", "nonee",
		"7fc00001", "ffc00000", "7f800001", "ffffffff", "7fffffff", "3f800000,7fc00001", "3f800000,C0000000", "3f80000\x00",
		repeated("3f800000", 257), repeated("3f800000", 256) + ",", strings.Repeat(",", 300), "３f800000", "3f800000\xff",
	} {
		list, ok := impl.ReadNumbers(s)
		failsList(t, "ReadNumbers "+strconv.Quote(s), list, ok)
	}
}

func TestVectorTexts(t *testing.T) {
	for _, c := range []struct {
		v    impl.Vector
		want string
	}{
		{vec(1, 0, 0), "3f800000,00000000,00000000"}, {vec(1, 0, -2), "3f800000,00000000,c0000000"},
		{vec(minusZero, infinite, num(0xff800001)), "80000000,7f800000,7fc00000"}, {vec(num(1), 2, 3), "00000001,40000000,40400000"},
	} {
		equal(t, "VectorText", impl.VectorText(c.v), c.want)
		back, ok := impl.ReadVector(c.want)
		equal(t, "ReadVector succeeds", ok, true)
		sameVector(t, "ReadVector", back, c.v)
	}
	for _, s := range []string{
		"", "none", "3f800000", "3f800000,00000000", "3f800000,00000000,00000000,00000000", "3f800000,00000000,",
		"3f800000,00000000,c000000", "3f800000,00000000,C0000000", "3f800000,00000000,7fc00001", "3f800000 00000000 c0000000",
		"3f800000,00000000,00000000 ", "3f800000,none,00000000", repeated("3f800000", 257),
	} {
		v, ok := impl.ReadVector(s)
		fails(t, "ReadVector "+s, v, ok)
	}
}

func TestIsName(t *testing.T) {
	for _, s := range []string{"a", "z", "arm", "abcdefgh", "none", "zzzzzzzz"} {
		equal(t, "IsName "+s, impl.IsName(s), true)
	}
	for _, s := range []string{"", "abcdefghi", "A", "aB", "a1", "a b", " a", "a ", "a\n", "`", "{", "a_", "a-b", "ä", "aä", "a\x00", "\xff", "a{", "`a"} {
		equal(t, "IsName "+strconv.Quote(s), impl.IsName(s), false)
	}
	for b := range 256 {
		equal(t, "IsName of one byte", impl.IsName(string([]byte{byte(b)})), b >= 'a' && b <= 'z')
	}
}

func TestDecimal(t *testing.T) {
	for _, c := range []struct {
		n    int64
		want string
	}{
		{0, "0"}, {-4, "-4"}, {7, "7"}, {10, "10"}, {-100, "-100"}, {1000000000000000, "1000000000000000"},
		{-1000000000000000, "-1000000000000000"}, {math.MaxInt64, "9223372036854775807"}, {math.MinInt64, "-9223372036854775808"},
	} {
		equal(t, "Decimal", impl.Decimal(c.n), c.want)
		n, ok := impl.ReadDecimal(c.want)
		if -impl.MaxValue <= c.n && c.n <= impl.MaxValue {
			equal(t, "ReadDecimal succeeds", ok, true)
			equal(t, "ReadDecimal", n, c.n)
		} else {
			fails(t, "ReadDecimal "+c.want, n, ok)
		}
	}
}

// wrongDecimals are texts that are no number from -MaxValue to MaxValue in decimal.
func wrongDecimals() []string {
	return []string{
		"", "-", "+", "-0", "+0", "+1", "00", "01", "-01", "--1", "1-", " 1", "1 ", "1\n", "1.0", "1e3", "0x1", "1_000", "a", "١",
		"1000000000000001", "-1000000000000001", "9223372036854775807", "9223372036854775808", "-9223372036854775808",
		"-9223372036854775809", "18446744073709551616", "18446744073709551617", "0000000000000000000001", "1\x00", "\xff", "none,", "None",
		strings.Repeat("9", 400), strings.Repeat("0", 400) + "1",
	}
}

func TestReadDecimalFails(t *testing.T) {
	for _, s := range append(wrongDecimals(), "none", "1,2") {
		n, ok := impl.ReadDecimal(s)
		fails(t, "ReadDecimal "+strconv.Quote(s), n, ok)
	}
}

func TestListText(t *testing.T) {
	for _, c := range []struct {
		list []int64
		want string
	}{
		{nil, "none"}, {[]int64{}, "none"}, {[]int64{0}, "0"}, {[]int64{3, -1, 3}, "3,-1,3"},
		{[]int64{impl.MaxValue, -impl.MaxValue}, "1000000000000000,-1000000000000000"}, {make([]int64, 64), repeated("0", 64)},
	} {
		got, ok := impl.ListText(c.list)
		equal(t, "ListText succeeds", ok, true)
		equal(t, "ListText", got, c.want)
		back, ok := impl.ReadList(c.want)
		equal(t, "ReadList succeeds", ok, true)
		equal(t, "ReadList", fmt.Sprint(back), fmt.Sprint(c.list))
	}
	for _, list := range [][]int64{
		make([]int64, 65), {impl.MaxValue + 1}, {-impl.MaxValue - 1}, {1, math.MaxInt64}, {math.MinInt64, 1}, {0, 0, impl.MaxValue + 1},
	} {
		got, ok := impl.ListText(list)
		fails(t, "ListText", got, ok)
	}
}

func TestReadListFails(t *testing.T) {
	wrong := []string{",", "1,", ",1", "1,,2", "1, 2", "1;2", "none,1", "1,none", "none ", repeated("0", 65), repeated("0", 64) + ",", strings.Repeat(",", 100)}
	for _, s := range wrongDecimals() {
		wrong = append(wrong, s, "1,"+s, s+",1", "1,"+s+",2")
	}
	for _, s := range wrong {
		list, ok := impl.ReadList(s)
		failsList(t, "ReadList "+strconv.Quote(s), list, ok)
	}
}

func TestCheckOf(t *testing.T) {
	for _, c := range []struct {
		start int64
		text  string
		want  int64
	}{
		{0, "", 0}, {65002, "", 65002}, {17, "", 17}, {0, "a", 126}, {0, "\x00", 29}, {0, "\xff", 284},
		{1, "\x00", 688}, {65002, "\x00", 64373}, {0, "ab", 18158}, {0, "ba", 18816}, {98, "ä", 376},
	} {
		got, ok := impl.CheckOf(c.start, c.text)
		equal(t, "CheckOf succeeds", ok, true)
		equal(t, "CheckOf "+strconv.Quote(c.text), got, c.want)
	}
	for _, start := range []int64{-1, 65003, 65004, math.MaxInt64, math.MinInt64} {
		got, ok := impl.CheckOf(start, "a")
		fails(t, "CheckOf", got, ok)
	}
	long := strings.Repeat("shape\xff\x00", 20000)
	want := int64(5)
	for _, b := range []byte(long) {
		want = (want*659 + int64(b) + 29) % 65003
	}
	got, ok := impl.CheckOf(5, long)
	equal(t, "CheckOf succeeds", ok, true)
	equal(t, "CheckOf of a long text", got, want)
}
