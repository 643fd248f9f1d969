package impl

import (
	"math"
	"strconv"
	"strings"
)

// Limits of chapter 1.
const (
	MaxNumbers = 256
	MaxValue   = 1000000000000000
	MaxItems   = 64
	CheckSize  = 65003
)

// Vector has three numbers.
type Vector struct {
	X float32
	Y float32
	Z float32
}

const (
	signBit   = 1 << 31
	notNumber = 0x7fc00000
	noneText  = "none"
)

// triple holds a vector's numbers as an array, on which operations work part by part.
type triple [3]float32

func tripleOf(v Vector) triple { return triple{v.X, v.Y, v.Z} }

func (t triple) vector() Vector { return Vector{t[0], t[1], t[2]} }

func (t triple) plus(o triple) triple {
	return triple{t[0] + o[0], t[1] + o[1], t[2] + o[2]}
}

func (t triple) minus(o triple) triple {
	return triple{t[0] - o[0], t[1] - o[1], t[2] - o[2]}
}

// times converts each product, because only a conversion keeps the compiler
// from fusing it with a later sum into one operation that is rounded once.
func (t triple) times(o triple) triple {
	return triple{float32(t[0] * o[0]), float32(t[1] * o[1]), float32(t[2] * o[2])}
}

// bits tells numbers that are the same from those that are not, where == on the numbers does not.
func (t triple) bits() [3]int64 {
	return [3]int64{BitsOf(t[0]), BitsOf(t[1]), BitsOf(t[2])}
}

func byParts(operation func(triple, triple) triple, a, b Vector) Vector {
	return operation(tripleOf(a), tripleOf(b)).vector()
}

// SameNumber reports whether two numbers are the same.
func SameNumber(a, b float32) bool { return BitsOf(a) == BitsOf(b) }

// IsFinite reports whether x is finite.
func IsFinite(x float32) bool {
	return math.Abs(float64(x)) <= math.MaxFloat32
}

// BitsOf returns the bits of a number.
func BitsOf(x float32) int64 {
	if x != x {
		return notNumber
	}
	return int64(math.Float32bits(x))
}

// FromBits returns the number with the given bits.
func FromBits(n int64) (float32, bool) {
	if n < 0 || n > math.MaxUint32 {
		return 0, false
	}
	return math.Float32frombits(uint32(n)), true
}

// NarrowNumber returns the nearest 32-bit number.
func NarrowNumber(x float64) float32 { return float32(x) }

// NextUp returns the next greater number.
func NextUp(x float32) float32 {
	bits := math.Float32bits(x)
	switch {
	case x != x || math.IsInf(float64(x), 1):
		return x
	case x == 0:
		return math.Float32frombits(1)
	case x < 0:
		return math.Float32frombits(bits - 1)
	}
	return math.Float32frombits(bits + 1)
}

// NextDown returns the next lesser number.
func NextDown(x float32) float32 { return opposite(NextUp(opposite(x))) }

// opposite turns the sign of every number, zeros among them.
func opposite(x float32) float32 {
	return math.Float32frombits(math.Float32bits(x) ^ signBit)
}

// SumNumbers returns the sum from left to right.
func SumNumbers(list []float32) (float32, bool) {
	if len(list) > MaxNumbers {
		return 0, false
	}
	var sum float32
	for _, x := range list {
		sum += x
	}
	return sum, true
}

// SumPairs returns the sum of both halves.
func SumPairs(list []float32) (float32, bool) {
	if len(list) > MaxNumbers {
		return 0, false
	}
	return sumHalves(list), true
}

func sumHalves(list []float32) float32 {
	switch len(list) {
	case 0:
		return 0
	case 1:
		return list[0]
	}
	middle := (len(list) + 1) / 2
	return sumHalves(list[:middle]) + sumHalves(list[middle:])
}

// DotNumbers returns the sum of products.
func DotNumbers(a, b []float32) (float32, bool) {
	if len(a) != len(b) || len(a) > MaxNumbers {
		return 0, false
	}
	var sum float32
	for i, x := range a {
		sum += float32(x * b[i])
	}
	return sum, true
}

// DotWide returns the sum of products in 64 bits.
func DotWide(a, b []float32) (float32, bool) {
	if len(a) != len(b) || len(a) > MaxNumbers {
		return 0, false
	}
	var sum float64
	for i, x := range a {
		sum += float64(float64(x) * float64(b[i]))
	}
	return NarrowNumber(sum), true
}

// FlushNumber returns a number that is not subnormal.
func FlushNumber(x float32) float32 {
	if IsSubnormal(x) {
		return math.Float32frombits(math.Float32bits(x) & signBit)
	}
	return x
}

// IsSubnormal reports whether x is subnormal.
func IsSubnormal(x float32) bool {
	const leastNormal = 0x1p-126
	return x != 0 && -leastNormal < x && x < leastNormal
}

// ExpNumber returns the exponential function.
func ExpNumber(x float32) float32 {
	wide := float64(x)
	switch {
	case x != x:
		return x
	case wide > 200:
		return float32(math.Inf(1))
	case wide < -200:
		return 0
	}
	t := wide / 256
	p := 1.0
	for k := 12; k >= 1; k-- {
		p = 1 + float64(t*p)/float64(k)
	}
	for range 8 {
		p = float64(p * p)
	}
	return NarrowNumber(p)
}

// LogNumber returns the logarithm.
func LogNumber(x float32) float32 {
	const logOfTwo = 0.6931471805599453
	switch {
	case x != x:
		return x
	case x < 0:
		return float32(math.NaN())
	case x == 0:
		return float32(math.Inf(-1))
	case math.IsInf(float64(x), 1):
		return x
	}
	near, halvings := nearOne(float64(x))
	s := (near - 1) / (near + 1)
	u := float64(s * s)
	q := 0.0
	for k := 25; k >= 1; k -= 2 {
		q = 1/float64(k) + float64(u*q)
	}
	return NarrowNumber(float64(2*float64(s*q)) + float64(halvings*logOfTwo))
}

// nearOne returns the positive finite x, halved or doubled until it is from 0.75 to below 1.5,
// and how often it was halved, less how often doubled.
func nearOne(x float64) (float64, float64) {
	halvings := 0.0
	for x >= 1.5 {
		x /= 2
		halvings++
	}
	for x < 0.75 {
		x *= 2
		halvings--
	}
	return x, halvings
}

// RootNumber returns the square root.
func RootNumber(x float32) float32 {
	return NarrowNumber(math.Sqrt(float64(x)))
}

// SineTurns returns the sine of some turns.
func SineTurns(x float32) float32 {
	wide := float64(x)
	if x != x || math.IsInf(wide, 0) {
		return float32(math.NaN())
	}
	if math.Abs(wide) >= 1<<52 {
		return 0
	}
	// An integer has no -0, so -0 stays -0 here, as it would not with math.Trunc.
	f := wide - float64(int64(wide))
	if f < 0 {
		f++
	}
	second := f >= 0.5
	if second {
		f -= 0.5
	}
	if f > 0.25 {
		f = 0.5 - f
	}
	sine := NarrowNumber(sineSeries(float64(f * fullTurn())))
	if second {
		return opposite(sine)
	}
	return sine
}

// fullTurn is a function, because the package level has no floats.
func fullTurn() float64 { return 6.283185307179586 }

// sineSeries returns the sine of an angle of at most a quarter of a turn.
func sineSeries(z float64) float64 {
	u := float64(z * z)
	p := 1.0
	for k := 8; k >= 1; k-- {
		p = 1 - float64(u*p)/float64(2*k*(2*k+1))
	}
	return float64(z * p)
}

// AngleTurns returns the angle of a point.
func AngleTurns(y, x float32) float32 {
	if !IsFinite(x) || !IsFinite(y) {
		return float32(math.NaN())
	}
	if x == 0 && y == 0 {
		return 0
	}
	a, b := math.Abs(float64(y)), math.Abs(float64(x))
	steep := a > b
	if steep {
		a, b = b, a
	}
	angle := slopeTurns(a / b)
	if steep {
		angle = 0.25 - angle
	}
	if x < 0 {
		angle = 0.5 - angle
	}
	if y < 0 {
		angle = -angle
	}
	return NarrowNumber(angle)
}

// slopeTurns returns the angle whose tangent is t, from 0 to 1.
func slopeTurns(t float64) float64 {
	for range 3 {
		t = t / (1 + math.Sqrt(1+float64(t*t)))
	}
	u := float64(t * t)
	p := 0.0
	for k := 15; k >= 1; k -= 2 {
		p = 1/float64(k) - float64(u*p)
	}
	return float64(8*float64(t*p)) / fullTurn()
}

// AddVectors returns the sums of numbers.
func AddVectors(a, b Vector) Vector { return byParts(triple.plus, a, b) }

// LessVectors returns the differences of numbers.
func LessVectors(a, b Vector) Vector { return byParts(triple.minus, a, b) }

// ScaleVector returns the products with a number.
func ScaleVector(v Vector, by float32) Vector {
	return byParts(triple.times, v, Vector{by, by, by})
}

// InnerOf returns the sum of products.
func InnerOf(a, b Vector) float32 {
	products := byParts(triple.times, a, b)
	return products.X + products.Y + products.Z
}

// CrossOf returns the vector across two others.
func CrossOf(a, b Vector) Vector {
	first := byParts(triple.times, Vector{a.Y, a.Z, a.X}, Vector{b.Z, b.X, b.Y})
	second := byParts(triple.times, Vector{a.Z, a.X, a.Y}, Vector{b.Y, b.Z, b.X})
	return LessVectors(first, second)
}

// LongOf returns the length of a vector.
func LongOf(v Vector) float32 { return RootNumber(InnerOf(v, v)) }

// BetweenVectors returns a vector between two others.
func BetweenVectors(a, b Vector, share float32) Vector {
	return AddVectors(a, ScaleVector(LessVectors(b, a), share))
}

// SameVector reports whether two vectors are the same.
func SameVector(a, b Vector) bool {
	return tripleOf(a).bits() == tripleOf(b).bits()
}

// VectorText returns the text of a vector.
func VectorText(v Vector) string {
	return hexText(v.X) + "," + hexText(v.Y) + "," + hexText(v.Z)
}

// ReadVector returns the vector with the given text.
func ReadVector(s string) (Vector, bool) {
	list, ok := ReadNumbers(s)
	if !ok || len(list) != 3 {
		return Vector{}, false
	}
	return Vector{list[0], list[1], list[2]}, true
}

// NumbersText returns the text of numbers.
func NumbersText(list []float32) (string, bool) {
	if len(list) > MaxNumbers {
		return "", false
	}
	words := make([]string, len(list))
	for i, x := range list {
		words[i] = hexText(x)
	}
	return joinWords(words), true
}

// ReadNumbers returns the numbers with the given text.
func ReadNumbers(s string) ([]float32, bool) {
	words, ok := cutWords(s, MaxNumbers)
	if !ok {
		return nil, false
	}
	list := make([]float32, len(words))
	for i, word := range words {
		if list[i], ok = readHex(word); !ok {
			return nil, false
		}
	}
	return list, true
}

func hexText(x float32) string {
	digits := strconv.FormatInt(BitsOf(x), 16)
	return strings.Repeat("0", 8-len(digits)) + digits
}

// readHex compares with the text of the number it has read, which refuses all other spellings,
// those of not-a-numbers with other bits among them.
func readHex(word string) (float32, bool) {
	bits, err := strconv.ParseUint(word, 16, 32)
	if err != nil {
		return 0, false
	}
	x := math.Float32frombits(uint32(bits))
	if hexText(x) != word {
		return 0, false
	}
	return x, true
}

func joinWords(words []string) string {
	if len(words) == 0 {
		return noneText
	}
	return strings.Join(words, ",")
}

// cutWords undoes joinWords, for at most most words.
func cutWords(s string, most int) ([]string, bool) {
	if s == noneText {
		return nil, true
	}
	words := strings.SplitN(s, ",", most+1)
	return words, len(words) <= most
}

// IsName reports whether s is a name.
func IsName(s string) bool {
	if len(s) < 1 || len(s) > 8 {
		return false
	}
	for i := range len(s) {
		if s[i] < 'a' || s[i] > 'z' {
			return false
		}
	}
	return true
}

// Decimal returns n in decimal.
func Decimal(n int64) string { return strconv.FormatInt(n, 10) }

// ReadDecimal returns the number with the given decimal text.
func ReadDecimal(s string) (int64, bool) {
	n, err := strconv.ParseInt(s, 10, 64)
	if err != nil || !isItem(n) || Decimal(n) != s {
		return 0, false
	}
	return n, true
}

func isItem(n int64) bool { return -MaxValue <= n && n <= MaxValue }

// ListText returns the text of a list.
func ListText(list []int64) (string, bool) {
	if len(list) > MaxItems {
		return "", false
	}
	words := make([]string, len(list))
	for i, n := range list {
		if !isItem(n) {
			return "", false
		}
		words[i] = Decimal(n)
	}
	return joinWords(words), true
}

// ReadList returns the list with the given text.
func ReadList(s string) ([]int64, bool) {
	words, ok := cutWords(s, MaxItems)
	if !ok {
		return nil, false
	}
	list := make([]int64, len(words))
	for i, word := range words {
		if list[i], ok = ReadDecimal(word); !ok {
			return nil, false
		}
	}
	return list, true
}

// CheckOf returns the check number of a text.
func CheckOf(start int64, s string) (int64, bool) {
	if start < 0 || start >= CheckSize {
		return 0, false
	}
	check := start
	for i := range len(s) {
		check = (659*check + int64(s[i]) + 29) % CheckSize
	}
	return check, true
}
