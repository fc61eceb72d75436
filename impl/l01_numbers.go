package impl

import (
	"math"
	"strconv"
	"strings"
)

// Limits of chapter 1.
const (
	MaxNumbers = 256
	MaxValue   = 1000000000000000
	MaxItems   = 64
	CheckSize  = 65003
)

const (
	notANumberBits   = 2143289344
	greatestBits     = 4294967295
	leastNormal      = 0x1p-126
	wholeTurns       = 0x1p52 // from here on, 64-bit numbers are integers
	radiansOfTurn    = 6.283185307179586
	logOfTwo         = 0.6931471805599453
	tenthsOfLog      = 43.42944819032518
	greatestExponent = 200
	emptyText        = "none"
	itemSeparator    = ","
	digitsOfNumber   = 8
	greatestName     = 8
)

// SameNumber reports whether two numbers are the same.
func SameNumber(a, b float32) bool { return BitsOf(a) == BitsOf(b) }

// IsFinite reports whether x is finite.
func IsFinite(x float32) bool { return isFiniteWide(float64(x)) }

func isFiniteWide(x float64) bool { return !math.IsNaN(x) && !math.IsInf(x, 0) }

func notANumber() float32 { return float32(math.NaN()) }

// BitsOf returns the bits of a number, the same ones for each not-a-number.
func BitsOf(x float32) int64 {
	if math.IsNaN(float64(x)) {
		return notANumberBits
	}
	return int64(math.Float32bits(x))
}

// FromBits returns the number with the given bits.
func FromBits(n int64) (float32, bool) {
	if n < 0 || n > greatestBits {
		return 0, false
	}
	return math.Float32frombits(uint32(n)), true
}

// NarrowNumber returns the nearest 32-bit number.
func NarrowNumber(x float64) float32 { return float32(x) }

// IsSubnormal reports whether x is subnormal.
func IsSubnormal(x float32) bool {
	return x != 0 && math.Abs(float64(x)) < leastNormal
}

// FlushNumber returns x, but a zero with its sign if it is subnormal.
func FlushNumber(x float32) float32 {
	if IsSubnormal(x) {
		return float32(math.Copysign(0, float64(x)))
	}
	return x
}

// SameComplex reports whether two complex numbers are the same.
func SameComplex(a, b complex64) bool {
	return SameNumber(real(a), real(b)) && SameNumber(imag(a), imag(b))
}

// IsFiniteComplex reports whether both parts are finite.
func IsFiniteComplex(x complex64) bool { return IsFinite(real(x)) && IsFinite(imag(x)) }

// NarrowComplex returns a number with narrowed parts.
func NarrowComplex(x complex128) complex64 {
	return complex(NarrowNumber(real(x)), NarrowNumber(imag(x)))
}

// wideProduct returns the product of x and y with 64-bit parts. The conversions
// keep a compiler from fusing a product and a sum into one operation.
func wideProduct(x, y complex128) complex128 {
	a, b, c, d := real(x), imag(x), real(y), imag(y)
	return complex(float64(a*c)-float64(b*d), float64(a*d)+float64(b*c))
}

// widePower returns the power of x as a 64-bit number.
func widePower(x complex64) float64 {
	a, b := float64(real(x)), float64(imag(x))
	return float64(a*a) + float64(b*b)
}

// MulComplex returns the product of x and y.
func MulComplex(x, y complex64) complex64 {
	return NarrowComplex(wideProduct(complex128(x), complex128(y)))
}

// ScaleComplex returns the product of a complex number and a number.
func ScaleComplex(x complex64, by float32) complex64 {
	return complex(float32(real(x)*by), float32(imag(x)*by))
}

// ConjugateOf returns the conjugate.
func ConjugateOf(x complex64) complex64 { return complex(real(x), -imag(x)) }

// PowerOf returns the power of x.
func PowerOf(x complex64) float32 { return NarrowNumber(widePower(x)) }

// LongOf returns the square root of the power of x.
func LongOf(x complex64) float32 { return NarrowNumber(math.Sqrt(widePower(x))) }

// QuotientOf returns the quotient of x and y.
func QuotientOf(x, y complex64) complex64 {
	product := wideProduct(complex128(x), complex128(ConjugateOf(y)))
	power := widePower(y)
	return NarrowComplex(complex(real(product)/power, imag(product)/power))
}

// RootNumber returns the square root of x.
func RootNumber(x float32) float32 { return NarrowNumber(math.Sqrt(float64(x))) }

// partOfTurn returns turns of less than wholeTurns without whole ones, from 0 to
// 1. It is 1 where a negative number is too near to 0 to be less than 1 turn.
func partOfTurn(turns float64) float64 {
	// An integer has no sign at 0, so that -0 less it stays -0.
	part := turns - float64(int64(turns))
	if part < 0 {
		part += 1
	}
	return part
}

// sineOf returns the sine of turns of less than wholeTurns.
func sineOf(turns float64) float64 {
	part := partOfTurn(turns)
	turned := part >= 0.5
	if turned {
		part -= 0.5
	}
	if part > 0.25 {
		part = 0.5 - part
	}
	z := float64(part * radiansOfTurn)
	u := float64(z * z)
	p := 1.0
	for k := 8; k >= 1; k-- {
		p = 1 - float64(u*p)/float64(2*k*(2*k+1))
	}
	sine := float64(z * p)
	if turned {
		return -sine
	}
	return sine
}

// SineTurns returns the sine of x turns.
func SineTurns(x float32) float32 {
	if !IsFinite(x) {
		return notANumber()
	}
	turns := float64(x)
	if math.Abs(turns) >= wholeTurns {
		return 0
	}
	return NarrowNumber(sineOf(turns))
}

// PhasorOf returns the point of the unit circle at some turns.
func PhasorOf(turns float64) complex64 {
	if !isFiniteWide(turns) {
		return complex(notANumber(), notANumber())
	}
	if math.Abs(turns) >= wholeTurns {
		return 1
	}
	part := partOfTurn(turns)
	quarters := 0
	for part >= 0.25 {
		part -= 0.25
		quarters++
	}
	return NarrowComplex(turnQuarters(sineOf(0.25-part), sineOf(part), quarters))
}

// turnQuarters returns c + s i, turned by quarters of a turn. What is less than
// 0 is taken from +0, so that no part becomes -0 where c or s is +0.
func turnQuarters(c, s float64, quarters int) complex128 {
	switch quarters {
	case 1:
		return complex(0-s, c)
	case 2:
		return complex(0-c, 0-s)
	case 3:
		return complex(s, 0-c)
	}
	return complex(c, s)
}

// angleOfSlope returns the angle, in turns, whose tangent is t, from 0 to 1.
func angleOfSlope(t float64) float64 {
	for range 3 {
		t = t / (1 + math.Sqrt(1+float64(t*t)))
	}
	u := float64(t * t)
	p := 0.0
	for k := 15; k >= 1; k -= 2 {
		p = 1/float64(k) - float64(u*p)
	}
	return float64(8*float64(t*p)) / radiansOfTurn
}

// AngleTurns returns the angle of the point x, y in turns.
func AngleTurns(y, x float32) float32 {
	if !IsFinite(y) || !IsFinite(x) {
		return notANumber()
	}
	if y == 0 && x == 0 {
		return 0
	}
	a, b := math.Abs(float64(y)), math.Abs(float64(x))
	var angle float64
	if a > b {
		angle = 0.25 - angleOfSlope(b/a)
	} else {
		angle = angleOfSlope(a / b)
	}
	if x < 0 {
		angle = 0.5 - angle
	}
	if y < 0 {
		angle = -angle
	}
	return NarrowNumber(angle)
}

// AngleOf returns the angle of x in turns.
func AngleOf(x complex64) float32 { return AngleTurns(imag(x), real(x)) }

// naturalLog returns the logarithm of a finite number greater than 0.
func naturalLog(x float64) float64 {
	halvings := 0
	for x >= 1.5 {
		x /= 2
		halvings++
	}
	for x < 0.75 {
		x *= 2
		halvings--
	}
	s := (x - 1) / (x + 1)
	u := float64(s * s)
	q := 0.0
	for k := 25; k >= 1; k -= 2 {
		q = 1/float64(k) + float64(u*q)
	}
	return float64(2*float64(s*q)) + float64(float64(halvings)*logOfTwo)
}

// TenthsOf returns the tenths of decibels of a finite power greater than 0.
func TenthsOf(power float32) (int64, bool) {
	if !IsFinite(power) || power <= 0 {
		return 0, false
	}
	tenths := float64(naturalLog(float64(power)) * tenthsOfLog)
	return int64(math.Floor(tenths + 0.5)), true
}

// LogNumber returns the natural logarithm of x.
func LogNumber(x float32) float32 {
	switch {
	case x == 0:
		return float32(math.Inf(-1))
	case x > 0 && !IsFinite(x):
		return x
	case x > 0:
		return NarrowNumber(naturalLog(float64(x)))
	}
	return notANumber()
}

// ExpNumber returns e to the power of x.
func ExpNumber(x float32) float32 {
	if x > greatestExponent {
		return float32(math.Inf(1))
	}
	if x < -greatestExponent {
		return 0
	}
	t := float64(x) / 256
	p := 1.0
	for k := 12; k >= 1; k-- {
		p = 1 + float64(t*p)/float64(k)
	}
	for range 8 {
		p = float64(p * p)
	}
	return NarrowNumber(p)
}

// summable numbers have sums that are made in the same way.
type summable interface{ float32 | complex64 }

// sumOf begins with +0 and adds at most MaxNumbers numbers from left to right.
func sumOf[T summable](list []T) (T, bool) {
	var sum T
	if len(list) > MaxNumbers {
		return sum, false
	}
	for _, x := range list {
		sum += x
	}
	return sum, true
}

// dotOf does so with the products of the numbers of two lists.
func dotOf[T summable](a, b []T, product func(x, y T) T) (T, bool) {
	var sum T
	if len(a) > MaxNumbers || len(a) != len(b) {
		return sum, false
	}
	for i, x := range a {
		sum += product(x, b[i])
	}
	return sum, true
}

// SumNumbers returns the sum from left to right.
func SumNumbers(list []float32) (float32, bool) { return sumOf(list) }

// DotNumbers returns the sum of products, each rounded before it is added.
func DotNumbers(a, b []float32) (float32, bool) {
	return dotOf(a, b, func(x, y float32) float32 { return float32(x * y) })
}

// SumComplex returns the sum from left to right.
func SumComplex(list []complex64) (complex64, bool) { return sumOf(list) }

// DotComplex returns the sum of products.
func DotComplex(a, b []complex64) (complex64, bool) { return dotOf(a, b, MulComplex) }

// DotConjugate returns the sum of products of the conjugates of a and of b.
func DotConjugate(a, b []complex64) (complex64, bool) {
	return dotOf(a, b, func(x, y complex64) complex64 { return MulComplex(ConjugateOf(x), y) })
}

// PowersOf returns the sum of powers, which is narrowed only in the end.
func PowersOf(list []complex64) (float32, bool) {
	if len(list) > MaxNumbers {
		return 0, false
	}
	var sum float64
	for _, x := range list {
		sum += widePower(x)
	}
	return NarrowNumber(sum), true
}

// itemsText returns the texts of at most most items with `,` between them.
func itemsText[T any](list []T, most int, textOf func(T) string) (string, bool) {
	if len(list) > most {
		return "", false
	}
	if len(list) == 0 {
		return emptyText, true
	}
	texts := make([]string, 0, len(list))
	for _, item := range list {
		texts = append(texts, textOf(item))
	}
	return strings.Join(texts, itemSeparator), true
}

// readItems returns the at most most items whose itemsText is s.
func readItems[T any](s string, most int, read func(string) (T, bool)) ([]T, bool) {
	if s == emptyText {
		return []T{}, true
	}
	// One more part than allowed is enough to see that there are too many.
	texts := strings.SplitN(s, itemSeparator, most+1)
	if len(texts) > most {
		return nil, false
	}
	list := make([]T, 0, len(texts))
	for _, text := range texts {
		item, ok := read(text)
		if !ok {
			return nil, false
		}
		list = append(list, item)
	}
	return list, true
}

// numberText returns the 8 hexadecimal digits of the bits of x.
func numberText(x float32) string {
	digits := strconv.FormatInt(BitsOf(x), 16)
	return strings.Repeat("0", digitsOfNumber-len(digits)) + digits
}

// hexDigit returns the value of a hexadecimal digit.
func hexDigit(r rune) (int64, bool) {
	switch {
	case r >= '0' && r <= '9':
		return int64(r - '0'), true
	case r >= 'a' && r <= 'f':
		return int64(r-'a') + 10, true
	}
	return 0, false
}

// readNumber returns the number whose numberText is s.
func readNumber(s string) (float32, bool) {
	if len(s) != digitsOfNumber {
		return 0, false
	}
	var bits int64
	for _, r := range s {
		digit, ok := hexDigit(r)
		if !ok {
			return 0, false
		}
		bits = 16*bits + digit
	}
	x, ok := FromBits(bits)
	// Of all the bits of not-a-numbers, only some stand in a text.
	if !ok || BitsOf(x) != bits {
		return 0, false
	}
	return x, true
}

// NumbersText returns the text of numbers.
func NumbersText(list []float32) (string, bool) {
	return itemsText(list, MaxNumbers, numberText)
}

// ReadNumbers returns the numbers with the given text.
func ReadNumbers(s string) ([]float32, bool) {
	return readItems(s, MaxNumbers, readNumber)
}

func partsText(x complex64) string { return numberText(real(x)) + numberText(imag(x)) }

// readParts returns the complex number whose partsText is s.
func readParts(s string) (complex64, bool) {
	if len(s) != 2*digitsOfNumber {
		return 0, false
	}
	re, ok := readNumber(s[:digitsOfNumber])
	if !ok {
		return 0, false
	}
	im, ok := readNumber(s[digitsOfNumber:])
	if !ok {
		return 0, false
	}
	return complex(re, im), true
}

// ComplexText returns the text of complex numbers.
func ComplexText(list []complex64) (string, bool) {
	return itemsText(list, MaxNumbers, partsText)
}

// ReadComplex returns the complex numbers with the given text.
func ReadComplex(s string) ([]complex64, bool) {
	return readItems(s, MaxNumbers, readParts)
}

// IsName reports whether s is a name.
func IsName(s string) bool {
	if len(s) < 1 || len(s) > greatestName {
		return false
	}
	for _, r := range s {
		if r < 'a' || r > 'z' {
			return false
		}
	}
	return true
}

// Decimal returns n in decimal.
func Decimal(n int64) string { return strconv.FormatInt(n, 10) }

func isValue(n int64) bool { return n >= -MaxValue && n <= MaxValue }

// ReadDecimal returns the number with the given decimal text.
func ReadDecimal(s string) (int64, bool) {
	n, err := strconv.ParseInt(s, 10, 64)
	// ParseInt also takes a plus, leading zeros and -0.
	if err != nil || !isValue(n) || Decimal(n) != s {
		return 0, false
	}
	return n, true
}

// ListText returns the text of a list.
func ListText(list []int64) (string, bool) {
	for _, n := range list {
		if !isValue(n) {
			return "", false
		}
	}
	return itemsText(list, MaxItems, Decimal)
}

// ReadList returns the list with the given text.
func ReadList(s string) ([]int64, bool) {
	return readItems(s, MaxItems, ReadDecimal)
}

// CheckOf returns the check number of a text that begins with start.
func CheckOf(start int64, s string) (int64, bool) {
	if start < 0 || start >= CheckSize {
		return 0, false
	}
	check := start
	for i := range len(s) {
		check = (853*check + int64(s[i]) + 139) % CheckSize
	}
	return check, true
}
