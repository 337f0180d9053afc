package impl

import (
	"cmp"
	"strings"
)

// Pieces of a course.
const (
	PieceStretcher = 'S'
	PieceHeader    = 'H'
	PieceThree     = 'T'
	PieceHalf      = 'B'
	PieceCloser    = 'C'
)

// allPieces are the letters of all pieces, in the order in which they are counted.
const allPieces = "SHTBC"

// MaxQuarters is the greatest length of a course in quarters of a brick.
const MaxQuarters = 200

// maxMeasure is the greatest length or height, in millimetres, that is divided into quarters or courses.
const maxMeasure = 100000

// Fraction is the number Num / Den.
type Fraction struct {
	Num int64
	Den int64
}

// compare orders fractions by the numbers that they are; their Dens are positive.
func (x Fraction) compare(y Fraction) int { return cmp.Compare(x.Num*y.Den, y.Num*x.Den) }

// awayFrom returns how far x is from an integer.
func (x Fraction) awayFrom(n int64) Fraction {
	return Fraction{Num: distance(x.Num, n*x.Den), Den: x.Den}
}

// minus returns x - n, which need not be in lowest terms.
func (x Fraction) minus(n int64) Fraction { return Fraction{Num: x.Num - n*x.Den, Den: x.Den} }

// over returns x / n in lowest terms; n is positive.
func (x Fraction) over(n int64) Fraction { return lowestTerms(x.Num, n*x.Den) }

// times returns x * n, which need not be in lowest terms.
func (x Fraction) times(n int64) Fraction { return Fraction{Num: x.Num * n, Den: x.Den} }

// plus returns x + y in lowest terms.
func (x Fraction) plus(y Fraction) Fraction {
	return lowestTerms(x.Num*y.Den+y.Num*x.Den, x.Den*y.Den)
}

// Format is the size of a brick in millimetres, and the thickness of the joints.
type Format struct {
	Length int64
	Width  int64
	Height int64
	Joint  int64
}

// ValidFormat reports whether f is valid.
func ValidFormat(f Format) bool { return f == f.clamped() && f.Width < f.Length }

// clamped returns f with each field moved to the nearest number that is allowed for it.
func (f Format) clamped() Format {
	return Format{
		Length: min(max(f.Length, 100), 500),
		Width:  min(max(f.Width, 50), 250),
		Height: min(max(f.Height, 30), 150),
		Joint:  min(max(f.Joint, 0), 20),
	}
}

// withJoint returns the place that a brick takes in a wall: it and one joint in each direction.
func (f Format) withJoint() Format {
	return Format{Length: f.Length + f.Joint, Width: f.Width + f.Joint, Height: f.Height + f.Joint}
}

// sizes returns the length, the width and the height.
func (f Format) sizes() []int64 { return []int64{f.Length, f.Width, f.Height} }

// volume returns the volume without joints.
func (f Format) volume() int64 { return f.Length * f.Width * f.Height }

// IsModular reports whether two headers are as long as a stretcher.
func IsModular(f Format) bool { return ValidFormat(f) && f.Length == 2*f.Width+f.Joint }

// QuartersOf returns the length of a piece in quarters.
func QuartersOf(piece byte) (int64, int64) {
	switch piece {
	case PieceStretcher:
		return 4, OK
	case PieceThree:
		return 3, OK
	case PieceHeader, PieceHalf:
		return 2, OK
	case PieceCloser:
		return 1, OK
	}
	return 0, ErrRange
}

// IsCut reports whether a piece must be cut.
func IsCut(piece byte) bool {
	switch piece {
	case PieceThree, PieceHalf, PieceCloser:
		return true
	}
	return false
}

// LengthOf returns the length in millimetres of some quarters, without a joint at the end.
func LengthOf(f Format, quarters int64) (Fraction, int64) {
	if code := checkFormat(f, quarters, 1, MaxQuarters); code != OK {
		return Fraction{}, code
	}
	return lowestTerms(quarters*f.withJoint().Length-4*f.Joint, 4), OK
}

// QuartersIn returns how many quarters fit into a length.
func QuartersIn(f Format, length int64) (int64, int64) {
	if code := checkFormat(f, length, 0, maxMeasure); code != OK {
		return 0, code
	}
	// The last quarter needs no joint behind it: it fits as if there were one joint more.
	return 4 * (length + f.Joint) / f.withJoint().Length, OK
}

// HeightOf returns the height of some courses, without a joint on top.
func HeightOf(f Format, courses int64) (int64, int64) {
	if code := checkFormat(f, courses, 1, MaxQuarters); code != OK {
		return 0, code
	}
	return courses*f.withJoint().Height - f.Joint, OK
}

// CoursesIn returns how many courses fit into a height.
func CoursesIn(f Format, height int64) (int64, int64) {
	if code := checkFormat(f, height, 0, maxMeasure); code != OK {
		return 0, code
	}
	// The last course needs no joint on top of it: it fits as if there were one joint more.
	return (height + f.Joint) / f.withJoint().Height, OK
}

// VolumeOf returns the volume of a brick, and that of a brick with its joints.
func VolumeOf(f Format) (int64, int64, int64) {
	if !ValidFormat(f) {
		return 0, 0, ErrInvalid
	}
	return f.volume(), f.withJoint().volume(), OK
}

// FormatText returns the text form of a format.
func FormatText(f Format) string {
	if !ValidFormat(f) {
		return ""
	}
	return joinNumbers("x", f.sizes()...) + "+" + Decimal(f.Joint)
}

// ReadFormat returns the valid format with a text form.
func ReadFormat(s string) (Format, bool) {
	first, last, _ := strings.Cut(s, "+")
	sizes, ok := readNumbers(first, "x")
	if !ok || len(sizes) != 3 {
		return Format{}, false
	}
	joint, ok := ReadDecimal(last)
	if !ok {
		return Format{}, false
	}
	f := Format{Length: sizes[0], Width: sizes[1], Height: sizes[2], Joint: joint}
	if !ValidFormat(f) {
		return Format{}, false
	}
	return f, true
}

// checkFormat returns the first error of a format and of a number that must be low to high.
func checkFormat(f Format, n, low, high int64) int64 {
	if !ValidFormat(f) {
		return ErrInvalid
	}
	if !isWithin(n, low, high) {
		return ErrRange
	}
	return OK
}

// wholeNumber returns the fraction that is n.
func wholeNumber(n int64) Fraction { return Fraction{Num: n, Den: 1} }

// lowestTerms returns num / den in lowest terms; den is positive.
func lowestTerms(num, den int64) Fraction {
	d := commonDivisor(distance(num, 0), den)
	return Fraction{Num: num / d, Den: den / d}
}

// overCommon returns the numerators of fractions in lowest terms over their least common denominator, and this denominator.
func overCommon(list []Fraction) ([]int64, int64) {
	den := int64(1)
	for _, x := range list {
		den *= x.Den / commonDivisor(den, x.Den)
	}
	var numerators []int64
	for _, x := range list {
		numerators = append(numerators, x.Num*(den/x.Den))
	}
	return numerators, den
}

// commonDivisor returns the greatest common divisor of two numbers that are not negative.
func commonDivisor(a, b int64) int64 {
	for b != 0 {
		a, b = b, a%b
	}
	return a
}
