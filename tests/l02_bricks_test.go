package tests

import (
	"fmt"
	"math"
	"strings"
	"testing"

	"loop.example/g01042/impl"
)

// uk is the format of the example of chapter 2.
var uk = impl.Format{Length: 215, Width: 102, Height: 65, Joint: 10}

// validFormats are formats of all kinds: at the limits of each field, and with and without joints.
func validFormats() []impl.Format {
	list := []impl.Format{
		uk,
		{Length: 240, Width: 115, Height: 71, Joint: 10},
		{Length: 250, Width: 120, Height: 65, Joint: 12},
		{Length: 101, Width: 100, Height: 30, Joint: 1},
		{Length: 251, Width: 250, Height: 150, Joint: 19},
		{Length: 103, Width: 51, Height: 31, Joint: 1},
	}
	for _, length := range []int64{100, 101, 250, 499, 500} {
		for _, width := range []int64{50, 51, 99, 100, 249, 250} {
			for _, height := range []int64{30, 31, 149, 150} {
				for _, joint := range []int64{0, 1, 2, 3, 19, 20} {
					if width < length {
						list = append(list, impl.Format{Length: length, Width: width, Height: height, Joint: joint})
					}
				}
			}
		}
	}
	return list
}

// invalidFormats have one fault each, or are far out of range.
func invalidFormats() []impl.Format {
	list := []impl.Format{
		{},
		{Length: 99, Width: 50, Height: 65, Joint: 10}, {Length: 501, Width: 102, Height: 65, Joint: 10},
		{Length: 215, Width: 49, Height: 65, Joint: 10}, {Length: 500, Width: 251, Height: 65, Joint: 10},
		{Length: 215, Width: 102, Height: 29, Joint: 10}, {Length: 215, Width: 102, Height: 151, Joint: 10},
		{Length: 215, Width: 102, Height: 65, Joint: -1}, {Length: 215, Width: 102, Height: 65, Joint: 21},
		{Length: 100, Width: 100, Height: 65, Joint: 10}, {Length: 215, Width: 215, Height: 65, Joint: 10},
		{Length: 250, Width: 250, Height: 65, Joint: 10}, {Length: 100, Width: 101, Height: 65, Joint: 10},
		{Length: 215, Width: 216, Height: 65, Joint: 10}, {Length: -215, Width: -102, Height: -65, Joint: -10},
	}
	for _, n := range extremes {
		list = append(list,
			impl.Format{Length: n, Width: 102, Height: 65, Joint: 10},
			impl.Format{Length: 215, Width: n, Height: 65, Joint: 10},
			impl.Format{Length: 215, Width: 102, Height: n, Joint: 10},
			impl.Format{Length: n, Width: n, Height: n, Joint: n})
		if n < 0 || n > 20 {
			list = append(list, impl.Format{Length: 215, Width: 102, Height: 65, Joint: n})
		}
	}
	return list
}

func TestBrickConstants(t *testing.T) {
	expect(t, "pieces", values(impl.PieceStretcher, impl.PieceHeader, impl.PieceThree, impl.PieceHalf, impl.PieceCloser), 'S', 'H', 'T', 'B', 'C')
	expect(t, "MaxQuarters", values(impl.MaxQuarters), 200)
}

func TestValidFormat(t *testing.T) {
	for _, f := range validFormats() {
		expect(t, fmt.Sprintf("ValidFormat(%v)", f), values(impl.ValidFormat(f)), true)
	}
	for _, f := range invalidFormats() {
		expect(t, fmt.Sprintf("ValidFormat(%v)", f), values(impl.ValidFormat(f)), false)
	}
}

// TestValidFormatAtEachEdge moves one field at a time over its limits.
func TestValidFormatAtEachEdge(t *testing.T) {
	for n := int64(-30); n <= 550; n++ {
		expect(t, fmt.Sprintf("Length %d", n), values(impl.ValidFormat(impl.Format{Length: n, Width: 50, Height: 65, Joint: 10})), 100 <= n && n <= 500)
		expect(t, fmt.Sprintf("Length %d above Width 200", n), values(impl.ValidFormat(impl.Format{Length: n, Width: 200, Height: 65, Joint: 10})), 201 <= n && n <= 500)
		expect(t, fmt.Sprintf("Width %d", n), values(impl.ValidFormat(impl.Format{Length: 500, Width: n, Height: 65, Joint: 10})), 50 <= n && n <= 250)
		expect(t, fmt.Sprintf("Width %d below Length 200", n), values(impl.ValidFormat(impl.Format{Length: 200, Width: n, Height: 65, Joint: 10})), 50 <= n && n <= 199)
		expect(t, fmt.Sprintf("Height %d", n), values(impl.ValidFormat(impl.Format{Length: 215, Width: 102, Height: n, Joint: 10})), 30 <= n && n <= 150)
		expect(t, fmt.Sprintf("Joint %d", n), values(impl.ValidFormat(impl.Format{Length: 215, Width: 102, Height: 65, Joint: n})), 0 <= n && n <= 20)
	}
}

func TestIsModular(t *testing.T) {
	modular := []impl.Format{
		{Length: 240, Width: 115, Height: 71, Joint: 10}, {Length: 100, Width: 50, Height: 30, Joint: 0}, {Length: 214, Width: 102, Height: 65, Joint: 10},
		{Length: 500, Width: 250, Height: 150, Joint: 0}, {Length: 500, Width: 240, Height: 150, Joint: 20}, {Length: 120, Width: 50, Height: 30, Joint: 20},
	}
	for _, f := range modular {
		expect(t, fmt.Sprintf("IsModular(%v)", f), values(impl.IsModular(f)), true)
	}
	for _, f := range validFormats() {
		expect(t, fmt.Sprintf("IsModular(%v)", f), values(impl.IsModular(f)), f.Length == 2*f.Width+f.Joint)
	}
	others := append(invalidFormats(),
		uk, // one millimetre too long
		impl.Format{Length: 213, Width: 102, Height: 65, Joint: 10},
		impl.Format{Length: 98, Width: 49, Height: 65},
		impl.Format{Length: 510, Width: 250, Height: 65, Joint: 10},
		impl.Format{Length: 240, Width: 115, Height: 29, Joint: 10},
		impl.Format{Length: 240, Width: 115, Height: 151, Joint: 10},
		impl.Format{Length: 221, Width: 100, Height: 65, Joint: 21},
		impl.Format{Length: 199, Width: 100, Height: 65, Joint: -1},
		impl.Format{Length: 214, Width: math.MinInt64 + 102, Height: 65, Joint: 10}, // equal only if the product wraps around
	)
	for _, f := range others {
		expect(t, fmt.Sprintf("IsModular(%v)", f), values(impl.IsModular(f)), false)
	}
}

func TestPieces(t *testing.T) {
	quarters := map[byte]int64{'S': 4, 'H': 2, 'T': 3, 'B': 2, 'C': 1}
	for b := range 256 {
		piece := byte(b)
		if n, ok := quarters[piece]; ok {
			expect(t, fmt.Sprintf("QuartersOf(%q)", piece), values(impl.QuartersOf(piece)), n, impl.OK)
		} else {
			expect(t, fmt.Sprintf("QuartersOf(%q)", piece), values(impl.QuartersOf(piece)), 0, impl.ErrRange)
		}
		expect(t, fmt.Sprintf("IsCut(%q)", piece), values(impl.IsCut(piece)), strings.Contains("TBC", string(rune(b))))
	}
}

func TestLengthOf(t *testing.T) {
	known := []struct{ quarters, num, den int64 }{
		{1, 185, 4}, {2, 205, 2}, {3, 635, 4}, {4, 215, 1}, {5, 1085, 4}, {8, 440, 1}, {199, 44735, 4}, {200, 11240, 1},
	}
	for _, k := range known {
		expect(t, fmt.Sprintf("LengthOf(%d)", k.quarters), values(impl.LengthOf(uk, k.quarters)), impl.Fraction{Num: k.num, Den: k.den}, impl.OK)
	}
	for _, f := range validFormats() {
		for quarters := int64(1); quarters <= impl.MaxQuarters; quarters++ {
			num, den := quarters*(f.Length+f.Joint)-4*f.Joint, int64(4)
			for num%2 == 0 && den > 1 {
				num, den = num/2, den/2
			}
			expect(t, fmt.Sprintf("LengthOf(%v, %d)", f, quarters), values(impl.LengthOf(f, quarters)), impl.Fraction{Num: num, Den: den}, impl.OK)
		}
	}
}

func TestQuartersIn(t *testing.T) {
	known := []struct{ length, quarters int64 }{
		{0, 0}, {1, 0}, {46, 0}, {47, 1}, {102, 1}, {103, 2}, {158, 2}, {159, 3}, {214, 3}, {215, 4}, {216, 4}, {439, 7}, {440, 8}, {900, 16},
		{11239, 199}, {11240, 200}, {11296, 200}, {11297, 201}, {100000, 1777}, {99999, 1777},
	}
	for _, k := range known {
		expect(t, fmt.Sprintf("QuartersIn(%d)", k.length), values(impl.QuartersIn(uk, k.length)), k.quarters, impl.OK)
	}
}

func TestHeightOf(t *testing.T) {
	known := []struct{ courses, height int64 }{{1, 65}, {2, 140}, {3, 215}, {4, 290}, {199, 14915}, {200, 14990}}
	for _, k := range known {
		expect(t, fmt.Sprintf("HeightOf(%d)", k.courses), values(impl.HeightOf(uk, k.courses)), k.height, impl.OK)
	}
	for _, f := range validFormats() {
		height := int64(0)
		for courses := int64(1); courses <= impl.MaxQuarters; courses++ {
			if courses > 1 {
				height += f.Joint
			}
			height += f.Height
			expect(t, fmt.Sprintf("HeightOf(%v, %d)", f, courses), values(impl.HeightOf(f, courses)), height, impl.OK)
		}
	}
}

// TestHeightOfExample is the example of the chapter.
func TestHeightOfExample(t *testing.T) {
	f, ok := impl.ReadFormat("215x102x65+10")
	expect(t, "ReadFormat", values(f, ok), uk, true)
	expect(t, "HeightOf", values(impl.HeightOf(f, 3)), 215, impl.OK)
}

func TestCoursesIn(t *testing.T) {
	known := []struct{ height, courses int64 }{
		{0, 0}, {1, 0}, {64, 0}, {65, 1}, {66, 1}, {74, 1}, {75, 1}, {139, 1}, {140, 2}, {150, 2}, {214, 2}, {215, 3}, {216, 3}, {225, 3}, {289, 3}, {290, 4},
		{14989, 199}, {14990, 200}, {15064, 200}, {15065, 201}, {99999, 1333}, {100000, 1333},
	}
	for _, k := range known {
		expect(t, fmt.Sprintf("CoursesIn(%d)", k.height), values(impl.CoursesIn(uk, k.height)), k.courses, impl.OK)
	}
	thin := impl.Format{Length: 500, Width: 250, Height: 30, Joint: 0}
	expect(t, "CoursesIn without joints", values(impl.CoursesIn(thin, 100000)), 3333, impl.OK)
	expect(t, "QuartersIn without joints", values(impl.QuartersIn(thin, 100000)), 800, impl.OK)
}

// TestEachLengthAndHeight goes through all lengths and counts a quarter or a course more as soon as the next one fits.
func TestEachLengthAndHeight(t *testing.T) {
	formats := []impl.Format{
		uk,
		{Length: 100, Width: 50, Height: 30, Joint: 0},
		{Length: 500, Width: 250, Height: 150, Joint: 20},
		{Length: 103, Width: 51, Height: 31, Joint: 20},
		{Length: 333, Width: 77, Height: 53, Joint: 7},
	}
	for _, f := range formats {
		quarters, courses := int64(0), int64(0)
		for n := int64(0); n <= 100000; n++ {
			if (quarters+1)*(f.Length+f.Joint)-4*f.Joint <= 4*n {
				quarters++
			}
			if (courses+1)*(f.Height+f.Joint)-f.Joint <= n {
				courses++
			}
			if got, code := impl.QuartersIn(f, n); got != quarters || code != impl.OK {
				t.Fatalf("QuartersIn(%v, %d): got %d %d, want %d 0", f, n, got, code, quarters)
			}
			if got, code := impl.CoursesIn(f, n); got != courses || code != impl.OK {
				t.Fatalf("CoursesIn(%v, %d): got %d %d, want %d 0", f, n, got, code, courses)
			}
		}
	}
}

// TestPromise2JustGreatEnough: a length or height just great enough has as many quarters or courses, and one millimetre less has not.
func TestPromise2JustGreatEnough(t *testing.T) {
	for _, f := range validFormats() {
		for n := int64(1); n <= impl.MaxQuarters; n++ {
			x, code := impl.LengthOf(f, n)
			length := (x.Num + x.Den - 1) / x.Den
			expect(t, fmt.Sprintf("LengthOf(%v, %d)", f, n), values(code), impl.OK)
			expect(t, fmt.Sprintf("QuartersIn(%v, %d)", f, length), values(impl.QuartersIn(f, length)), n, impl.OK)
			expect(t, fmt.Sprintf("QuartersIn(%v, %d)", f, length-1), values(impl.QuartersIn(f, length-1)), n-1, impl.OK)
			height, code := impl.HeightOf(f, n)
			expect(t, fmt.Sprintf("HeightOf(%v, %d)", f, n), values(code), impl.OK)
			expect(t, fmt.Sprintf("CoursesIn(%v, %d)", f, height), values(impl.CoursesIn(f, height)), n, impl.OK)
			expect(t, fmt.Sprintf("CoursesIn(%v, %d)", f, height-1), values(impl.CoursesIn(f, height-1)), n-1, impl.OK)
			// nor is a joint on top, or a part of the next course, a course more
			expect(t, fmt.Sprintf("CoursesIn(%v, %d)", f, height+f.Joint), values(impl.CoursesIn(f, height+f.Joint)), n, impl.OK)
			next := height + f.Joint + f.Height
			expect(t, fmt.Sprintf("CoursesIn(%v, %d)", f, next-1), values(impl.CoursesIn(f, next-1)), n, impl.OK)
		}
	}
}

func TestVolumeOf(t *testing.T) {
	expect(t, "VolumeOf", values(impl.VolumeOf(uk)), 1425450, 1890000, impl.OK)
	for _, f := range validFormats() {
		outer := (f.Length + f.Joint) * (f.Width + f.Joint) * (f.Height + f.Joint)
		expect(t, fmt.Sprintf("VolumeOf(%v)", f), values(impl.VolumeOf(f)), f.Length*f.Width*f.Height, outer, impl.OK)
	}
	for _, f := range invalidFormats() {
		expect(t, fmt.Sprintf("VolumeOf(%v)", f), values(impl.VolumeOf(f)), 0, 0, impl.ErrInvalid)
	}
}

// TestBrickErrors: an invalid format is told before a number out of range, and no other result is given with an error.
func TestBrickErrors(t *testing.T) {
	inRange := []int64{1, 2, 200}
	noCount := append([]int64{-200, 201, 202, 100000}, extremes...)
	noMeasure := append([]int64{-2, -100000, 100001, 100002}, extremes...)
	for _, f := range invalidFormats() {
		for _, n := range append(append(inRange, noCount...), noMeasure...) {
			expect(t, fmt.Sprintf("LengthOf(%v, %d)", f, n), values(impl.LengthOf(f, n)), impl.Fraction{}, impl.ErrInvalid)
			expect(t, fmt.Sprintf("QuartersIn(%v, %d)", f, n), values(impl.QuartersIn(f, n)), 0, impl.ErrInvalid)
			expect(t, fmt.Sprintf("HeightOf(%v, %d)", f, n), values(impl.HeightOf(f, n)), 0, impl.ErrInvalid)
			expect(t, fmt.Sprintf("CoursesIn(%v, %d)", f, n), values(impl.CoursesIn(f, n)), 0, impl.ErrInvalid)
		}
	}
	for _, f := range validFormats() {
		for _, n := range noCount {
			if n != 1 {
				expect(t, fmt.Sprintf("LengthOf(%v, %d)", f, n), values(impl.LengthOf(f, n)), impl.Fraction{}, impl.ErrRange)
				expect(t, fmt.Sprintf("HeightOf(%v, %d)", f, n), values(impl.HeightOf(f, n)), 0, impl.ErrRange)
			}
		}
		for _, n := range noMeasure {
			if n != 0 && n != 1 {
				expect(t, fmt.Sprintf("QuartersIn(%v, %d)", f, n), values(impl.QuartersIn(f, n)), 0, impl.ErrRange)
				expect(t, fmt.Sprintf("CoursesIn(%v, %d)", f, n), values(impl.CoursesIn(f, n)), 0, impl.ErrRange)
			}
		}
	}
}

func TestFormatText(t *testing.T) {
	known := map[string]impl.Format{
		"215x102x65+10":  uk,
		"100x50x30+0":    {Length: 100, Width: 50, Height: 30, Joint: 0},
		"500x250x150+20": {Length: 500, Width: 250, Height: 150, Joint: 20},
		"101x100x30+1":   {Length: 101, Width: 100, Height: 30, Joint: 1},
	}
	for s, f := range known {
		expect(t, fmt.Sprintf("FormatText(%v)", f), values(impl.FormatText(f)), s)
	}
	for _, f := range invalidFormats() {
		expect(t, fmt.Sprintf("FormatText(%v)", f), values(impl.FormatText(f)), "")
	}
}

// TestPromise2ReadFormat: formats are read back from their texts.
func TestPromise2ReadFormat(t *testing.T) {
	for _, f := range validFormats() {
		s := fmt.Sprintf("%dx%dx%d+%d", f.Length, f.Width, f.Height, f.Joint)
		expect(t, fmt.Sprintf("FormatText(%v)", f), values(impl.FormatText(f)), s)
		expect(t, fmt.Sprintf("ReadFormat(%q)", s), values(impl.ReadFormat(s)), f, true)
	}
	for _, f := range invalidFormats() {
		s := fmt.Sprintf("%dx%dx%d+%d", f.Length, f.Width, f.Height, f.Joint)
		expect(t, fmt.Sprintf("ReadFormat(%q)", s), values(impl.ReadFormat(s)), impl.Format{}, false)
	}
}

func TestReadFormatOfOthers(t *testing.T) {
	others := []string{
		"", " ", "+", "x", "xx+", "xxx+", "x+x", "wall-3", "215",
		// parts that are missing, too many or in a wrong order
		"215x102x65", "215x102x65+", "215x102+10", "215+10", "+10", "x102x65+10", "215xx65+10", "215x102x+10", "215x102x65x+10", "x215x102x65+10",
		"215x102x65x10", "215x102x65x10+10", "215x102x65+10+10", "215x102x65+10+", "+215x102x65+10", "215+102+65+10", "215+102x65x10", "10+215x102x65",
		"215x102x65+10x0", "215x102x6510", "215x102x65++10", "215x102x65-10", "215x102x65+-10", "215x102x65+x10",
		// blanks
		" 215x102x65+10", "215x102x65+10 ", "215 x102x65+10", "215x 102x65+10", "215x102x65 +10", "215x102x65+ 10", "215x102x65+1 0", "215x102x65+10\n", "\t215x102x65+10", "215x102x65+10\x00",
		// numbers that are not in decimal
		"0215x102x65+10", "215x0102x65+10", "215x102x065+10", "215x102x65+010", "215x102x65+00", "215x102x65+-0", "+215x102x65+10", "215x+102x65+10",
		"215.0x102x65+10", "2_15x102x65+10", "0xd7x102x65+10", "215x102x65+1e1", "215x102x65+a", "٢١٥x102x65+10", "215x102x65+１０", "215x102x65+10\xff",
		// other separators
		"215X102x65+10", "215X102X65+10", "215×102×65+10", "215*102*65+10", "215,102,65+10", "215x102x65 10", "215x102x65＋10",
		// formats that are not valid, also after numbers that would wrap around
		"99x50x65+10", "501x102x65+10", "215x49x65+10", "500x251x65+10", "215x102x29+10", "215x102x151+10", "215x102x65+21", "215x102x65+-1",
		"215x215x65+10", "100x100x65+10", "102x215x65+10", "-215x102x65+10", "215x-102x65+10", "0x0x0+0",
		"18446744073709551831x102x65+10", "215x102x65+18446744073709551626", "4294967511x102x65+10",
	}
	for _, s := range others {
		expect(t, fmt.Sprintf("ReadFormat(%q)", s), values(impl.ReadFormat(s)), impl.Format{}, false)
	}
	for _, s := range []string{strings.Repeat("x", 5000), strings.Repeat("+", 5000), strings.Repeat("1x", 5000), "215x102x65+" + strings.Repeat("1", 5000)} {
		expect(t, "ReadFormat of a long text", values(impl.ReadFormat(s)), impl.Format{}, false)
	}
}

// TestReadFormatOfChangedTexts changes each byte of a text: it is read only as the text of another valid format.
func TestReadFormatOfChangedTexts(t *testing.T) {
	const text = "215x102x65+10"
	for k := range len(text) {
		for b := range 256 {
			s := text[:k] + string([]byte{byte(b)}) + text[k+1:]
			f, ok := impl.ReadFormat(s)
			if ok {
				expect(t, fmt.Sprintf("ReadFormat(%q)", s), values(fmt.Sprintf("%dx%dx%d+%d", f.Length, f.Width, f.Height, f.Joint), impl.ValidFormat(f)), s, true)
			} else {
				expect(t, fmt.Sprintf("ReadFormat(%q)", s), values(f, ok), impl.Format{}, false)
			}
		}
	}
}

// TestPromise1Bricks: every function of chapter 2 returns for all arguments, and equal results for equal arguments.
func TestPromise1Bricks(t *testing.T) {
	for _, f := range append(validFormats(), invalidFormats()...) {
		before := f
		for _, n := range append([]int64{2, 100, 200, 201, 100000, 100001}, extremes...) {
			expect(t, "LengthOf", values(impl.LengthOf(f, n)), values(impl.LengthOf(f, n))...)
			expect(t, "QuartersIn", values(impl.QuartersIn(f, n)), values(impl.QuartersIn(f, n))...)
			expect(t, "HeightOf", values(impl.HeightOf(f, n)), values(impl.HeightOf(f, n))...)
			expect(t, "CoursesIn", values(impl.CoursesIn(f, n)), values(impl.CoursesIn(f, n))...)
		}
		expect(t, "ValidFormat", values(impl.ValidFormat(f)), impl.ValidFormat(f))
		expect(t, "IsModular", values(impl.IsModular(f)), impl.IsModular(f))
		expect(t, "VolumeOf", values(impl.VolumeOf(f)), values(impl.VolumeOf(f))...)
		expect(t, "FormatText", values(impl.FormatText(f)), impl.FormatText(f))
		expect(t, "ReadFormat", values(impl.ReadFormat(impl.FormatText(f))), values(impl.ReadFormat(impl.FormatText(f)))...)
		expect(t, "the argument", values(f), before)
	}
	for b := range 256 {
		expect(t, "QuartersOf", values(impl.QuartersOf(byte(b))), values(impl.QuartersOf(byte(b)))...)
		expect(t, "IsCut", values(impl.IsCut(byte(b))), impl.IsCut(byte(b)))
	}
}
