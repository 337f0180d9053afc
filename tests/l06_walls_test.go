package tests

import (
	"fmt"
	"regexp"
	"slices"
	"strconv"
	"strings"
	"testing"

	"loop.example/g01042/impl"
)

// pieceQuarters has the quarters of each piece.
var pieceQuarters = map[byte]int64{'S': 4, 'H': 2, 'T': 3, 'B': 2, 'C': 1}

// coursesOf returns all courses with this length.
func coursesOf(length int64) []string {
	if length == 0 {
		return []string{""}
	}
	var list []string
	for _, piece := range []byte("SHTBC") {
		if quarters := pieceQuarters[piece]; quarters <= length {
			for _, rest := range coursesOf(length - quarters) {
				list = append(list, string(piece)+rest)
			}
		}
	}
	return list
}

// repeated puts a text together of a number of copies of each piece: repeated(2, "S", 1, "C") is SSC.
func repeated(runs ...any) string {
	text := ""
	for k := 0; k < len(runs); k += 2 {
		text += strings.Repeat(runs[k+1].(string), runs[k].(int))
	}
	return text
}

// validCourses are all short courses, and long ones: with just MaxPieces pieces, just MaxQuarters quarters, or both.
func validCourses() []string {
	var list []string
	for length := int64(1); length <= 6; length++ {
		list = append(list, coursesOf(length)...)
	}
	return append(list,
		repeated(60, "C"), repeated(60, "H"), repeated(60, "B"), repeated(60, "T"), repeated(59, "C"), repeated(59, "T", 1, "S"), repeated(30, "HC"), repeated(20, "SHC"), repeated(12, "SHTBC"),
		repeated(50, "S"), repeated(49, "S", 1, "TC"), repeated(49, "S", 1, "T"), repeated(1, "BB", 49, "S"), repeated(1, "C", 58, "T", 1, "C"),
		repeated(40, "S", 20, "H"), repeated(20, "B", 40, "S"), repeated(12, "C", 2, "H", 46, "S"), repeated(20, "T", 35, "S"), repeated(33, "SH")[:60],
	)
}

// invalidTexts are texts that are no course.
func invalidTexts() []string {
	list := []string{
		"", " ", "shtbc", "s", "0", "4", "1S", "S1", "SS SS", " SS", "SS ", "SS\n", "SS\x00", "S+S", "SÉ", "é", "Ｓ", "\xff", "S\xff", "wall-3",
		// a piece more than MaxPieces
		repeated(61, "C"), repeated(61, "H"), repeated(61, "B"), repeated(61, "T"), repeated(30, "HC", 1, "H"), repeated(60, "C", 1, "S"),
		// a quarter more than MaxQuarters, with few pieces and with MaxPieces
		repeated(50, "S", 1, "C"), repeated(1, "C", 50, "S"), repeated(49, "S", 1, "TB"), repeated(49, "S", 1, "HT"), repeated(41, "S", 18, "H", 1, "C"), repeated(40, "S", 19, "H", 1, "T"), repeated(21, "T", 34, "S", 1, "B"),
		repeated(51, "S"), repeated(60, "S"), repeated(61, "S"), repeated(67, "T"), repeated(201, "C"), strings.Repeat("S", 100000), strings.Repeat("C", 100000), strings.Repeat("x", 100000),
	}
	for b := range 256 {
		letter := string([]byte{byte(b)})
		if !strings.Contains("SHTBC", letter) {
			list = append(list, letter, letter+"SHTBC", "SH"+letter+"TBC", "SHTBC"+letter, letter+letter+"S", repeated(59, "C")+letter, letter+repeated(59, "C"), repeated(29, "C")+letter+repeated(30, "C"))
		}
	}
	return list
}

// guardedWall returns a wall with unused capacity behind its courses, and a function that checks that all is as it was.
func guardedWall(wall []string) ([]string, func(t *testing.T, call string)) {
	return guarded(wall, "C")
}

// mixedWall returns a wall of pieces of all kinds, another one for each seed. It is not longer than MaxPieces.
func mixedWall(seed, length int64, courses int) []string {
	var wall []string
	for range courses {
		course, end := "", int64(0)
		for end < length {
			seed = (seed*1103515245 + 12345) % (1 << 31)
			piece := "SSSHHTBC"[seed/65536%8]
			if end+pieceQuarters[piece] <= length {
				course += string(piece)
				end += pieceQuarters[piece]
			}
		}
		wall = append(wall, course)
	}
	return wall
}

// mixedWalls are walls of several lengths and numbers of courses, up to MaxCourses.
func mixedWalls() [][]string {
	var list [][]string
	for seed := int64(1); seed <= 60; seed++ {
		list = append(list, mixedWall(seed, 1+seed, 2), mixedWall(seed, 7+seed%9, 2+int(seed%4)), mixedWall(seed, 60-seed/2, 3), mixedWall(seed, 4+seed%5, 1+int(seed%40)))
	}
	return append(list, mixedWall(77, 60, 40), mixedWall(78, 3, 40), mixedWall(79, 13, 39))
}

// validWalls are walls of one course, of several ones and of MaxCourses.
func validWalls() [][]string {
	list := mixedWalls()
	for _, course := range validCourses() {
		list = append(list, []string{course}, []string{course, course}, slices.Repeat([]string{course}, 39), slices.Repeat([]string{course}, 40))
	}
	return append(list,
		[]string{"SSS", "HCHHHHC", "SSS"}, []string{"S", "HB", "TC", "CCCC"}, []string{"CCCC", "S", "CCCC"}, []string{"ST", "TS"}, []string{repeated(50, "S"), repeated(1, "B", 49, "S", 1, "B")}, []string{repeated(20, "T"), repeated(60, "C")},
		[]string{repeated(40, "S", 20, "H"), repeated(20, "B", 40, "S"), repeated(50, "S")},
	)
}

// invalidWalls have an invalid course or one with another length at any place, or a course too many.
func invalidWalls() [][]string {
	list := [][]string{
		nil, {}, {""}, {"", ""}, {"S", ""}, {"", "S"}, {"S", "H"}, {"H", "S"}, {"SSS", "SSS", "SSH"}, {"SSS", "SSC", "SSS"}, {"SSC", "SSS", "SSS"}, {"CCCC", "CCC"}, {"SS", "HH"}, {"S", "S "}, {"SSS HCHHHHC"}, {"SSS", "HCHHHHC", "SSSC"},
		slices.Repeat([]string{"S"}, 41), slices.Repeat([]string{"S"}, 42), slices.Repeat([]string{"SSS", "HCHHHHC"}, 21), slices.Repeat([]string{repeated(50, "S")}, 41), slices.Repeat([]string{"C"}, 1000), make([]string, 40), make([]string, 41),
		{repeated(50, "S"), repeated(49, "S", 1, "T")}, {repeated(50, "S"), repeated(50, "S", 1, "C")}, {repeated(60, "C"), repeated(59, "C")}, {repeated(60, "C"), repeated(61, "C")}, {repeated(15, "S"), repeated(61, "C")},
	}
	for _, text := range invalidTexts() {
		list = append(list, []string{text}, []string{text, text}, []string{"SSS", text}, []string{text, "SSS"}, []string{"S", text, "CT"})
	}
	for k := range impl.MaxCourses {
		for _, course := range []string{"SSx", "", "HCHHHH", "SSSC", "SSB", repeated(61, "C")} {
			wall := slices.Repeat([]string{"SSS", "HCHHHHC"}, impl.MaxCourses/2)
			wall[k] = course
			list = append(list, wall)
		}
	}
	return list
}

// wantedPerpends returns where all pieces of a course end but for the last one, and where that ends.
func wantedPerpends(course string) (perpends []int64, length int64) {
	for k := range len(course) {
		if k > 0 {
			perpends = append(perpends, length)
		}
		length += pieceQuarters[course[k]]
	}
	return perpends, length
}

// wantedLaid returns a course by a bond, which may have too many pieces.
func wantedLaid(b impl.Bond, course, length int64) string {
	ends, _ := wantedEnds(b, course, length)
	c := b.Courses[course%int64(len(b.Courses))]
	left := length
	if len(ends) > 0 {
		left -= ends[len(ends)-1]
	}
	return (c.Lead + strings.Repeat(c.Cycle, 200))[:len(ends)] + []string{"", "C", "B", "T"}[left]
}

// wantedClash returns the least one of all clashes of a wall, as a course and two perpends; nil if there is none.
func wantedClash(wall []string, lap int64) []int64 {
	var all [][]int64
	for k := len(wall) - 2; k >= 0; k-- {
		low, _ := wantedPerpends(wall[k])
		high, _ := wantedPerpends(wall[k+1])
		for _, p := range low {
			for _, q := range high {
				if p-q < lap && q-p < lap {
					all = append(all, []int64{int64(k), p, q})
				}
			}
		}
	}
	if all == nil {
		return nil
	}
	return slices.MinFunc(all, slices.Compare)
}

// expectClash checks the first clash of a wall, and whether the wall is bonded; nil stands for no clash.
func expectClash(t *testing.T, wall []string, lap int64, want []int64) {
	t.Helper()
	k, p, q, code := impl.FirstClash(wall, lap)
	bonded, bondedCode := impl.IsBonded(wall, lap)
	got := []int64{k, p, q, code}
	right := slices.Equal(got, append(slices.Clone(want), impl.OK))
	if want == nil {
		right = slices.Equal(got, []int64{0, 0, 0, impl.ErrNotFound})
	}
	if !right || bonded != (want == nil) || bondedCode != impl.OK {
		t.Errorf("the first clash of %q for the lap %d: got %v, bonded %v %d, want %v", wall, lap, got, bonded, bondedCode, want)
	}
}

func TestWallConstants(t *testing.T) {
	expect(t, "constants", values(impl.MaxPieces, impl.MaxCourses), 60, 40)
}

// TestWallsExample is the example of chapter 6.
func TestWallsExample(t *testing.T) {
	b, code := impl.BondNamed("english")
	expect(t, "BondNamed", values(code), impl.OK)
	expect(t, "the first course", values(impl.LayCourse(b, 0, 12)), "SSS", impl.OK)
	expect(t, "the second course", values(impl.LayCourse(b, 1, 12)), "HCHHHHC", impl.OK)
	expect(t, "both courses", values(impl.LayWall(b, 12, 2)), []string{"SSS", "HCHHHHC"}, impl.OK)
	expect(t, "the short text", values(impl.CourseRuns("HCHHHHC")), "1H 1C 4H 1C")
	expect(t, "its course", values(impl.ReadRuns("1H 1C 4H 1C")), "HCHHHHC", true)
}

func TestValidCourse(t *testing.T) {
	for _, course := range validCourses() {
		expect(t, fmt.Sprintf("ValidCourse(%q)", course), values(impl.ValidCourse(course)), true)
	}
	for _, text := range invalidTexts() {
		expect(t, fmt.Sprintf("ValidCourse(%.80q)", text), values(impl.ValidCourse(text)), false)
	}
}

// TestValidCourseAtEachEdge adds one piece at a time, to none and to other pieces.
func TestValidCourseAtEachEdge(t *testing.T) {
	for _, piece := range []byte("SHTBC") {
		for n := range 80 {
			for _, other := range []string{"", "S", "CC", "HTB", repeated(10, "S"), repeated(20, "C")} {
				pieces := strings.Repeat(string(piece), n)
				_, length := wantedPerpends(pieces + other)
				right := n+len(other) >= 1 && n+len(other) <= 60 && length <= 200
				expect(t, fmt.Sprintf("ValidCourse(%q)", pieces+other), values(impl.ValidCourse(pieces+other)), right)
				expect(t, fmt.Sprintf("ValidCourse(%q)", other+pieces), values(impl.ValidCourse(other+pieces)), right)
			}
		}
	}
}

func TestValidWall(t *testing.T) {
	for _, wall := range validWalls() {
		expect(t, fmt.Sprintf("ValidWall(%q)", wall), values(impl.ValidWall(wall)), true)
	}
	for _, wall := range invalidWalls() {
		expect(t, fmt.Sprintf("ValidWall(%.80q)", wall), values(impl.ValidWall(wall)), false)
	}
	for n := range 50 {
		expect(t, fmt.Sprintf("ValidWall of %d", n), values(impl.ValidWall(slices.Repeat([]string{repeated(50, "S")}, n))), n >= 1 && n <= 40)
	}
	// Courses are compared by their quarters: neither by their pieces nor by their number.
	for _, one := range validCourses() {
		for _, other := range []string{"S", "SC", "CCCCC", "HTBC", "SSSSSSSS", "SHT", repeated(60, "C"), repeated(30, "B"), repeated(15, "S"), repeated(50, "S")} {
			_, a := wantedPerpends(one)
			_, b := wantedPerpends(other)
			expect(t, fmt.Sprintf("ValidWall of %q and %q", one, other), values(impl.ValidWall([]string{one, other}), impl.ValidWall([]string{other, other, one})), a == b, a == b)
		}
	}
}

func TestCourses(t *testing.T) {
	known := []struct {
		course       string
		length, cuts int64
		perpends     []int64
		mirror       string
	}{
		{"S", 4, 0, nil, "S"}, {"H", 2, 0, nil, "H"}, {"T", 3, 1, nil, "T"}, {"B", 2, 1, nil, "B"}, {"C", 1, 1, nil, "C"},
		{"SSS", 12, 0, []int64{4, 8}, "SSS"}, {"HCHHHHC", 12, 2, []int64{2, 3, 5, 7, 9, 11}, "CHHHHCH"}, {"SHC", 7, 1, []int64{4, 6}, "CHS"}, {"SHTBC", 12, 3, []int64{4, 6, 9, 11}, "CBTHS"}, {"CBTHS", 12, 3, []int64{1, 3, 6, 8}, "SHTBC"},
		// courses that are their own mirrors, with a piece in the middle and without, and one that is none although its lengths are the same
		{"CSC", 6, 2, []int64{1, 5}, "CSC"}, {"HCCH", 6, 2, []int64{2, 3, 4}, "HCCH"}, {"TSHST", 16, 2, []int64{3, 7, 9, 13}, "TSHST"}, {"HSB", 8, 1, []int64{2, 6}, "BSH"},
		{"ST", 7, 1, []int64{4}, "TS"}, {"TS", 7, 1, []int64{3}, "ST"}, {"CCC", 3, 3, []int64{1, 2}, "CCC"}, {"BTB", 7, 3, []int64{2, 5}, "BTB"},
	}
	for _, k := range known {
		expect(t, fmt.Sprintf("CourseLength(%q)", k.course), values(impl.CourseLength(k.course)), k.length, impl.OK)
		expect(t, fmt.Sprintf("CutsIn(%q)", k.course), values(impl.CutsIn(k.course)), k.cuts, impl.OK)
		expect(t, fmt.Sprintf("MirrorCourse(%q)", k.course), values(impl.MirrorCourse(k.course)), k.mirror, impl.OK)
		perpends, code := impl.CoursePerpends(k.course)
		if code != impl.OK || !slices.Equal(perpends, k.perpends) {
			t.Errorf("CoursePerpends(%q): got %v %d, want %v 0", k.course, perpends, code, k.perpends)
		}
	}
}

func TestCoursesOfAll(t *testing.T) {
	for _, course := range slices.Concat(append(mixedWalls(), validCourses())...) {
		wanted, length := wantedPerpends(course)
		cuts := strings.Count(course, "T") + strings.Count(course, "B") + strings.Count(course, "C")
		expect(t, fmt.Sprintf("CourseLength(%q)", course), values(impl.CourseLength(course)), length, impl.OK)
		expect(t, fmt.Sprintf("CutsIn(%q)", course), values(impl.CutsIn(course)), cuts, impl.OK)
		perpends, code := impl.CoursePerpends(course)
		if code != impl.OK || !slices.Equal(perpends, wanted) {
			t.Errorf("CoursePerpends(%q): got %v %d, want %v 0", course, perpends, code, wanted)
		}
		mirror, code := impl.MirrorCourse(course)
		expect(t, fmt.Sprintf("MirrorCourse(%q)", course), values(code, len(mirror)), impl.OK, len(course))
		for k := range len(course) {
			if mirror[k] != course[len(course)-1-k] {
				t.Errorf("MirrorCourse(%q): got %q", course, mirror)
			}
		}
		expect(t, fmt.Sprintf("MirrorCourse(%q)", mirror), values(impl.MirrorCourse(mirror)), course, impl.OK)
	}
}

func TestCourseErrors(t *testing.T) {
	for _, text := range invalidTexts() {
		call := fmt.Sprintf("(%.80q)", text)
		expect(t, "CourseLength"+call, values(impl.CourseLength(text)), 0, impl.ErrInvalid)
		expect(t, "CoursePerpends"+call, values(impl.CoursePerpends(text)), []int64(nil), impl.ErrInvalid)
		expect(t, "CutsIn"+call, values(impl.CutsIn(text)), 0, impl.ErrInvalid)
		expect(t, "MirrorCourse"+call, values(impl.MirrorCourse(text)), "", impl.ErrInvalid)
		expect(t, "CourseRuns"+call, values(impl.CourseRuns(text)), "")
	}
}

func TestLayCourse(t *testing.T) {
	stretcher, header, english, flemish := libraryBonds[0], libraryBonds[1], libraryBonds[2], libraryBonds[3]
	three, closers := bondOf(impl.Course{Lead: "T", Cycle: "H"}), bondOf(impl.Course{Lead: "CTT", Cycle: "S"})
	short, mixed := bondOf(impl.Course{Lead: "CCCCCC", Cycle: "H"}), bondOf(impl.Course{Lead: "SHT", Cycle: "HHS"})
	known := []struct {
		b              impl.Bond
		course, length int64
		want           string
	}{
		// a course that ends just with a piece of the bond, and one for which 1, 2 or 3 quarters are left
		{english, 0, 12, "SSS"}, {english, 0, 13, "SSSC"}, {english, 0, 14, "SSSB"}, {english, 0, 15, "SSST"}, {english, 0, 16, "SSSS"},
		{english, 1, 11, "HCHHHH"}, {english, 1, 12, "HCHHHHC"}, {english, 1, 13, "HCHHHHH"}, {flemish, 0, 6, "SH"}, {flemish, 0, 7, "SHC"}, {flemish, 0, 8, "SHB"}, {flemish, 0, 9, "SHT"}, {flemish, 0, 10, "SHS"}, {flemish, 0, 11, "SHSC"}, {flemish, 0, 12, "SHSH"},
		// what is left is laid by a part, although a later piece of the bond would do
		{flemish, 1, 3, "HC"}, {flemish, 1, 4, "HCC"}, {flemish, 1, 5, "HCB"}, {flemish, 1, 6, "HCT"}, {flemish, 1, 7, "HCS"}, {flemish, 1, 8, "HCSC"}, {flemish, 1, 9, "HCSH"}, {mixed, 0, 13, "SHTHH"}, {mixed, 0, 14, "SHTHHC"}, {mixed, 0, 15, "SHTHHB"}, {mixed, 0, 16, "SHTHHT"}, {mixed, 0, 17, "SHTHHS"},
		// a length that is less than the first piece
		{english, 0, 1, "C"}, {english, 0, 2, "B"}, {english, 0, 3, "T"}, {english, 0, 4, "S"}, {header, 0, 1, "C"}, {header, 0, 2, "H"}, {flemish, 0, 1, "C"}, {flemish, 0, 2, "B"}, {flemish, 0, 3, "T"},
		// ... or within the lead
		{english, 1, 1, "C"}, {english, 1, 2, "H"}, {english, 1, 3, "HC"}, {english, 1, 4, "HCC"}, {english, 1, 5, "HCH"}, {stretcher, 1, 1, "C"}, {stretcher, 1, 2, "B"}, {stretcher, 1, 3, "BC"}, {stretcher, 1, 4, "BB"}, {stretcher, 1, 5, "BT"}, {stretcher, 1, 6, "BS"},
		{three, 0, 1, "C"}, {three, 0, 2, "B"}, {three, 0, 3, "T"}, {three, 0, 4, "TC"}, {three, 0, 5, "TH"}, {closers, 0, 1, "C"}, {closers, 0, 2, "CC"}, {closers, 0, 3, "CB"}, {closers, 0, 4, "CT"}, {closers, 0, 5, "CTC"}, {closers, 0, 6, "CTB"}, {closers, 0, 7, "CTT"}, {closers, 0, 8, "CTTC"}, {closers, 0, 11, "CTTS"},
		{mixed, 0, 5, "SC"}, {mixed, 0, 6, "SH"}, {mixed, 0, 7, "SHC"}, {mixed, 0, 8, "SHB"}, {mixed, 0, 9, "SHT"},
		// the courses of a bond again and again
		{english, 2, 12, "SSS"}, {english, 3, 12, "HCHHHHC"}, {english, 999, 12, "HCHHHHC"}, {english, 1000, 12, "SSS"}, {libraryBonds[4], 2, 7, "ST"}, {libraryBonds[4], 5, 7, "BSC"}, {libraryBonds[4], 1000, 7, "ST"}, {libraryBonds[4], 999, 7, "HCHH"},
		// long courses: just MaxQuarters, just MaxPieces
		{stretcher, 0, 200, repeated(50, "S")}, {stretcher, 1, 200, repeated(1, "B", 49, "S", 1, "B")}, {stretcher, 1, 199, repeated(1, "B", 49, "S", 1, "C")}, {stretcher, 0, 199, repeated(49, "S", 1, "T")},
		{header, 0, 120, repeated(60, "H")}, {header, 0, 119, repeated(59, "H", 1, "C")}, {header, 1, 119, repeated(1, "C", 59, "H")}, {header, 1, 118, repeated(1, "C", 58, "H", 1, "C")},
		{flemish, 0, 180, repeated(30, "SH")}, {flemish, 0, 179, repeated(29, "SH", 1, "SC")}, {english, 1, 119, repeated(1, "HC", 58, "H")}, {english, 1, 118, repeated(1, "HC", 57, "H", 1, "C")}, {short, 7, 114, repeated(6, "C", 54, "H")}, {short, 7, 113, repeated(6, "C", 53, "H", 1, "C")},
	}
	for _, k := range known {
		expect(t, fmt.Sprintf("LayCourse(%q, %d, %d)", k.b, k.course, k.length), values(impl.LayCourse(k.b, k.course, k.length)), k.want, impl.OK)
	}
	full := []struct {
		b              impl.Bond
		course, length int64
	}{
		// one piece more: a whole one, or a part
		{header, 0, 121}, {header, 0, 122}, {header, 0, 200}, {header, 1, 120}, {header, 1, 121}, {header, 999, 200}, {flemish, 0, 181}, {flemish, 0, 182}, {flemish, 0, 183}, {flemish, 0, 184}, {flemish, 0, 200}, {english, 1, 120}, {english, 1, 121}, {english, 1, 200}, {short, 0, 115}, {short, 0, 116}, {short, 1000, 200},
	}
	for _, k := range full {
		expect(t, fmt.Sprintf("LayCourse(%q, %d, %d)", k.b, k.course, k.length), values(impl.LayCourse(k.b, k.course, k.length)), "", impl.ErrFull)
	}
}

// TestLayCourseOfAll goes through all lengths.
func TestLayCourseOfAll(t *testing.T) {
	for _, bond := range validBonds() {
		b, unchanged := guardedBond(bond)
		for _, course := range []int64{0, 1, 7, 1000} {
			for length := int64(1); length <= impl.MaxQuarters; length++ {
				want, wantCode := wantedLaid(b, course, length), int64(impl.OK)
				if len(want) > 60 {
					want, wantCode = "", impl.ErrFull
				}
				if got, code := impl.LayCourse(b, course, length); got != want || code != wantCode {
					t.Errorf("LayCourse(%q, %d, %d): got %q %d, want %q %d", b, course, length, got, code, want, wantCode)
				}
			}
		}
		unchanged(t, fmt.Sprintf("LayCourse(%q)", b))
	}
}

// TestPromise6Perpends: the perpends of a laid course are those of its bond, also where it ends with a part.
func TestPromise6Perpends(t *testing.T) {
	left := map[int]int{}
	for _, b := range validBonds() {
		for _, course := range []int64{0, 1, 2, 999} {
			for length := int64(1); length <= impl.MaxQuarters; length++ {
				laid, code := impl.LayCourse(b, course, length)
				if code == impl.ErrFull {
					continue
				}
				call := fmt.Sprintf("LayCourse(%q, %d, %d) = %q", b, course, length, laid)
				perpends, perpendsCode := impl.CoursePerpends(laid)
				wanted, wantedCode := impl.PerpendsOf(b, course, length)
				if code != impl.OK || perpendsCode != impl.OK || wantedCode != impl.OK || !slices.Equal(perpends, wanted) {
					t.Errorf("%s %d has the perpends %v %d, want %v %d", call, code, perpends, perpendsCode, wanted, wantedCode)
				}
				if quarters, code := impl.CourseLength(laid); quarters != length || code != impl.OK {
					t.Errorf("%s has the length %d %d", call, quarters, code)
				}
				left[strings.Index("CBT", laid[len(laid)-1:])]++
			}
		}
	}
	expect(t, "there are courses that end with each part and with none", values(left[-1] > 0, left[0] > 0, left[1] > 0, left[2] > 0), true, true, true, true)
}

func TestLayWall(t *testing.T) {
	english, garden := libraryBonds[2], libraryBonds[4]
	expect(t, "LayWall of english", values(impl.LayWall(english, 12, 3)), []string{"SSS", "HCHHHHC", "SSS"}, impl.OK)
	expect(t, "LayWall of one course", values(impl.LayWall(english, 12, 1)), []string{"SSS"}, impl.OK)
	expect(t, "LayWall of garden", values(impl.LayWall(garden, 9, 6)), []string{"SSC", "BST", "SSC", "HCHHH", "SSC", "BST"}, impl.OK)
	expect(t, "LayWall of one quarter", values(impl.LayWall(garden, 1, 5)), []string{"C", "C", "C", "C", "C"}, impl.OK)
	high, code := impl.LayWall(english, 118, 40)
	expect(t, "LayWall of MaxCourses", values(len(high), high[38], high[39], code), 40, repeated(29, "S", 1, "B"), repeated(1, "HC", 57, "H", 1, "C"), impl.OK)
	// Only courses that are laid may have too many pieces.
	one := bondOf(plain, plain, impl.Course{Cycle: "H"})
	expect(t, "LayWall below the headers", values(impl.LayWall(one, 200, 2)), slices.Repeat([]string{repeated(50, "S")}, 2), impl.OK)
	for _, courses := range []int64{3, 4, 40} {
		expect(t, fmt.Sprintf("LayWall of %d courses", courses), values(impl.LayWall(one, 200, courses)), []string(nil), impl.ErrFull)
	}
	expect(t, "LayWall of MaxPieces", values(impl.LayWall(one, 120, 3)), []string{repeated(30, "S"), repeated(30, "S"), repeated(60, "H")}, impl.OK)
	expect(t, "LayWall of one more", values(impl.LayWall(one, 121, 3)), []string(nil), impl.ErrFull)
	expect(t, "LayWall of headers", values(impl.LayWall(libraryBonds[1], 121, 1)), []string(nil), impl.ErrFull)
}

// TestLayWallOfAll: all courses of a wall are those of LayCourse.
func TestLayWallOfAll(t *testing.T) {
	for _, bond := range validBonds() {
		b, unchanged := guardedBond(bond)
		for _, length := range []int64{1, 2, 3, 4, 5, 11, 12, 59, 60, 114, 118, 119, 120, 121, 150, 199, 200} {
			for _, courses := range []int64{1, 2, 3, 9, 39, 40} {
				var want []string
				wantCode := int64(impl.OK)
				for k := range courses {
					want = append(want, wantedLaid(b, k, length))
				}
				if slices.ContainsFunc(want, func(course string) bool { return len(course) > 60 }) {
					want, wantCode = nil, impl.ErrFull
				}
				got, code := impl.LayWall(b, length, courses)
				if !slices.Equal(got, want) || code != wantCode {
					t.Errorf("LayWall(%q, %d, %d): got %q %d, want %q %d", b, length, courses, got, code, want, wantCode)
				}
				if code == impl.OK && !impl.ValidWall(got) {
					t.Errorf("LayWall(%q, %d, %d): %q is no wall", b, length, courses, got)
				}
			}
		}
		unchanged(t, fmt.Sprintf("LayWall(%q)", b))
	}
}

// TestLayErrors: the errors of laid courses and walls in their order, each beside zero values.
func TestLayErrors(t *testing.T) {
	course := func(b impl.Bond, course, length, code int64) {
		t.Helper()
		expect(t, fmt.Sprintf("LayCourse(%q, %d, %d)", b, course, length), values(impl.LayCourse(b, course, length)), "", code)
	}
	wall := func(b impl.Bond, length, courses, code int64) {
		t.Helper()
		expect(t, fmt.Sprintf("LayWall(%q, %d, %d)", b, length, courses), values(impl.LayWall(b, length, courses)), []string(nil), code)
	}
	for _, b := range invalidBonds() {
		for _, n := range []int64{-1, 0, 1, 40, 200, 201, 1001} {
			course(b, n, 12, impl.ErrInvalid)
			course(b, 0, n, impl.ErrInvalid)
			course(b, n, n, impl.ErrInvalid)
			wall(b, n, 1, impl.ErrInvalid)
			wall(b, 12, n, impl.ErrInvalid)
			wall(b, n, n, impl.ErrInvalid)
		}
	}
	// With the length 200, some of these have too many pieces: ErrRange goes before ErrFull.
	for _, b := range []impl.Bond{libraryBonds[0], libraryBonds[1], bondOf(plain), bondOf(slices.Repeat([]impl.Course{long}, 8)...)} {
		for _, wrong := range outside(0, 1000) {
			for _, length := range append([]int64{1, 12, 200}, outside(1, 200)...) {
				course(b, wrong, length, impl.ErrRange)
			}
		}
		for _, length := range outside(1, 200) {
			for _, n := range []int64{0, 1, 40, 1000} {
				course(b, n, length, impl.ErrRange)
			}
			for _, courses := range append([]int64{1, 2, 40}, outside(1, 40)...) {
				wall(b, length, courses, impl.ErrRange)
			}
		}
		for _, courses := range outside(1, 40) {
			for _, length := range []int64{1, 12, 200} {
				wall(b, length, courses, impl.ErrRange)
			}
		}
	}
}

func TestFirstClash(t *testing.T) {
	at3, at4, none := []int64{0, 4, 3}, []int64{0, 4, 4}, []int64(nil)
	known := []struct {
		wall []string
		want [4][]int64 // for the laps 1 to 4
	}{
		{[]string{"SSS", "HCHHHHC", "SSS"}, [4][]int64{none, at3, {0, 4, 2}, {0, 4, 2}}}, {[]string{"HCHHHHC", "SSS"}, [4][]int64{none, {0, 3, 4}, {0, 2, 4}, {0, 2, 4}}},
		// perpends of both at the same place: their distance is 0
		{[]string{"SS", "SS"}, [4][]int64{at4, at4, at4, at4}}, {[]string{"SSS", "SSS"}, [4][]int64{at4, at4, at4, at4}}, {[]string{"SSS", "SCCCCCCCC"}, [4][]int64{at4, at4, at4, at4}},
		// a distance that is just the lap, and one less, to either side
		{[]string{"SC", "TH"}, [4][]int64{none, at3, at3, at3}}, {[]string{"TH", "SC"}, [4][]int64{none, {0, 3, 4}, {0, 3, 4}, {0, 3, 4}}},
		{[]string{"SH", "HS"}, [4][]int64{none, none, {0, 4, 2}, {0, 4, 2}}}, {[]string{"HS", "SH"}, [4][]int64{none, none, {0, 2, 4}, {0, 2, 4}}},
		{[]string{"SC", "CS"}, [4][]int64{none, none, none, {0, 4, 1}}}, {[]string{"CS", "SC"}, [4][]int64{none, none, none, {0, 1, 4}}},
		// a perpend above that is far enough is passed over for a nearer one
		{[]string{"SS", "CSHC"}, [4][]int64{none, {0, 4, 5}, {0, 4, 5}, {0, 4, 1}}}, {[]string{"TTB", "SS"}, [4][]int64{none, {0, 3, 4}, {0, 3, 4}, {0, 3, 4}}}, {[]string{"SC", "CS", "SC"}, [4][]int64{none, none, none, {0, 4, 1}}}, {[]string{"BTS", "HHHT"}, [4][]int64{{0, 2, 2}, {0, 2, 2}, {0, 2, 2}, {0, 2, 2}}},
		// walls without a clash: a single course, courses without a perpend, every other course without one
		{[]string{"SSS"}, [4][]int64{}}, {[]string{"CCCCCCCC"}, [4][]int64{}}, {[]string{"S"}, [4][]int64{}}, {[]string{"S", "S"}, [4][]int64{}}, {[]string{"S", "CCCC"}, [4][]int64{}}, {[]string{"CCCC", "S"}, [4][]int64{}}, {[]string{"HH", "S", "HH", "S", "CT"}, [4][]int64{}}, {[]string{"C", "C", "C"}, [4][]int64{}},
		// several clashes: the least course
		{[]string{"SSS", "BSSB", "SSS", "SSS", "SSS"}, [4][]int64{{2, 4, 4}, {2, 4, 4}, {0, 4, 2}, {0, 4, 2}}}, {[]string{"SSS", "BSSB", "SSS", "BSSB", "HHHHS"}, [4][]int64{{3, 2, 2}, {3, 2, 2}, {0, 4, 2}, {0, 4, 2}}}, {[]string{"HH", "S", "HH", "HH", "TC"}, [4][]int64{{2, 2, 2}, {2, 2, 2}, {2, 2, 2}, {2, 2, 2}}},
		// ... then its least perpend, even if a later one is nearer to one above
		{[]string{"SSSS", "HSHSS"}, [4][]int64{{0, 8, 8}, {0, 8, 8}, {0, 4, 2}, {0, 4, 2}}}, {[]string{"SSSS", "TSCSS"}, [4][]int64{{0, 8, 8}, at3, at3, at3}}, {[]string{"HHSS", "BSHS"}, [4][]int64{{0, 2, 2}, {0, 2, 2}, {0, 2, 2}, {0, 2, 2}}},
		// ... and then the least perpend above, even if a later one is nearer
		{[]string{"SS", "TCCT"}, [4][]int64{at4, at3, at3, at3}}, {[]string{"SS", "CCCCCCCC"}, [4][]int64{at4, {0, 4, 3}, {0, 4, 2}, {0, 4, 1}}}, {[]string{"SS", "HTT"}, [4][]int64{none, {0, 4, 5}, {0, 4, 2}, {0, 4, 2}}}, {[]string{"CCCCCCCC", "SS"}, [4][]int64{at4, {0, 3, 4}, {0, 2, 4}, {0, 1, 4}}},
		// courses that are not above one another do not clash
		{[]string{"SSS", "BSSB", "SSS", "BSSB", "SSS"}, [4][]int64{none, none, {0, 4, 2}, {0, 4, 2}}}, {[]string{"SH", "HS", "SH", "HS"}, [4][]int64{none, none, {0, 4, 2}, {0, 4, 2}}},
	}
	for _, k := range known {
		for lap, want := range k.want {
			expectClash(t, k.wall, int64(lap+1), want)
		}
	}
}

// TestFirstClashOfAll checks all walls of two or three short courses, and many greater ones.
func TestFirstClashOfAll(t *testing.T) {
	check := func(wall ...string) {
		t.Helper()
		guardedOne, unchanged := guardedWall(wall)
		for lap := int64(1); lap <= 4; lap++ {
			expectClash(t, guardedOne, lap, wantedClash(wall, lap))
		}
		unchanged(t, fmt.Sprintf("a clash of %q", wall))
	}
	for length := int64(1); length <= 6; length++ {
		for _, one := range coursesOf(length) {
			for _, other := range coursesOf(length) {
				check(one, other)
			}
		}
	}
	for _, one := range coursesOf(4) {
		for _, two := range coursesOf(4) {
			for _, three := range coursesOf(4) {
				check(one, two, three)
			}
		}
	}
	for _, wall := range validWalls() {
		check(wall...)
	}
}

// TestFirstClashAtEachCourse puts the only clash between any two courses of a wall of MaxCourses.
func TestFirstClashAtEachCourse(t *testing.T) {
	for k := range impl.MaxCourses - 1 {
		wall := slices.Repeat([]string{"SSS", "BSSB"}, impl.MaxCourses/2)
		expectClash(t, wall, 2, nil)
		copy(wall[k+1:], slices.Clone(wall[k:]))
		place := int64(4)
		if k%2 == 1 {
			place = 2
		}
		expectClash(t, wall, 1, []int64{int64(k), place, place})
		expectClash(t, wall, 2, []int64{int64(k), place, place})
	}
}

// TestPromise6UpsideDown: a wall upside down is bonded alike, and so is one from the other end.
func TestPromise6UpsideDown(t *testing.T) {
	walls := validWalls()
	for _, b := range validBonds() {
		for _, length := range []int64{4, 7, 12, 30, 101} {
			if wall, code := impl.LayWall(b, length, 5); code == impl.OK {
				walls = append(walls, wall, wall[:2], wall[1:4])
			}
		}
	}
	verdicts := map[bool]int{}
	for _, wall := range walls {
		down, mirror := slices.Clone(wall), []string{}
		slices.Reverse(down)
		for _, course := range wall {
			other, _ := impl.MirrorCourse(course)
			mirror = append(mirror, other)
		}
		for lap := int64(1); lap <= 4; lap++ {
			bonded, code := impl.IsBonded(wall, lap)
			expect(t, fmt.Sprintf("IsBonded(%q, %d)", wall, lap), values(code), impl.OK)
			expect(t, fmt.Sprintf("IsBonded(%q, %d) upside down", wall, lap), values(impl.IsBonded(down, lap)), bonded, impl.OK)
			expect(t, fmt.Sprintf("IsBonded(%q, %d) from the other end", wall, lap), values(impl.IsBonded(mirror, lap)), bonded, impl.OK)
			verdicts[bonded]++
		}
	}
	expect(t, "there are walls of both kinds", values(verdicts[true] > 0, verdicts[false] > 0), true, true)
}

// TestLaidWallsAreBonded: a wall by a bond is bonded for the lap of the bond until its length, if it has all courses and the first one again.
func TestLaidWallsAreBonded(t *testing.T) {
	for _, b := range validBonds() {
		for _, length := range []int64{3, 8, 12, 27, 100} {
			wall, code := impl.LayWall(b, length, int64(len(b.Courses))+1)
			if code != impl.OK {
				continue
			}
			bondLap, code := impl.LapOfBond(b, length)
			if code == impl.ErrNotFound {
				bondLap = impl.MaxQuarters
			}
			for lap := int64(1); lap <= 4; lap++ {
				expect(t, fmt.Sprintf("IsBonded(%q, %d)", wall, lap), values(impl.IsBonded(wall, lap)), lap <= bondLap, impl.OK)
			}
		}
	}
}

func TestCountPieces(t *testing.T) {
	known := []struct {
		wall []string
		want []int64
	}{
		{[]string{"SSS", "HCHHHHC", "SSS"}, []int64{6, 5, 0, 0, 2}}, {[]string{"S"}, []int64{1, 0, 0, 0, 0}}, {[]string{"H"}, []int64{0, 1, 0, 0, 0}}, {[]string{"T"}, []int64{0, 0, 1, 0, 0}}, {[]string{"B"}, []int64{0, 0, 0, 1, 0}}, {[]string{"C"}, []int64{0, 0, 0, 0, 1}},
		{[]string{"SHTBC"}, []int64{1, 1, 1, 1, 1}}, {[]string{"SHTBC", "CBTHS", "SSS"}, []int64{5, 2, 2, 2, 2}}, {[]string{"H", "B", "CC"}, []int64{0, 1, 0, 1, 2}}, {slices.Repeat([]string{repeated(60, "T")}, 40), []int64{0, 0, 2400, 0, 0}}, {slices.Repeat([]string{"SHHTTTBBBBCCCCC"}, 40), []int64{40, 80, 120, 160, 200}},
	}
	for _, k := range known {
		expect(t, fmt.Sprintf("CountPieces(%q)", k.wall), values(impl.CountPieces(k.wall)), k.want, impl.OK)
	}
	for _, one := range validWalls() {
		wall, unchanged := guardedWall(one)
		var want []int64
		for _, piece := range []string{"S", "H", "T", "B", "C"} {
			want = append(want, int64(strings.Count(strings.Join(wall, ""), piece)))
		}
		expect(t, fmt.Sprintf("CountPieces(%q)", wall), values(impl.CountPieces(wall)), want, impl.OK)
		unchanged(t, fmt.Sprintf("CountPieces(%q)", wall))
	}
}

// TestWallErrors: the errors of all functions of walls in their order, each beside zero values.
func TestWallErrors(t *testing.T) {
	check := func(wall []string, lap, code int64) {
		t.Helper()
		expect(t, fmt.Sprintf("FirstClash(%.80q, %d)", wall, lap), values(impl.FirstClash(wall, lap)), 0, 0, 0, code)
		expect(t, fmt.Sprintf("IsBonded(%.80q, %d)", wall, lap), values(impl.IsBonded(wall, lap)), false, code)
	}
	for _, wall := range invalidWalls() {
		for _, lap := range append([]int64{1, 4}, outside(1, 4)...) {
			check(wall, lap, impl.ErrInvalid)
		}
		expect(t, fmt.Sprintf("CountPieces(%.80q)", wall), values(impl.CountPieces(wall)), []int64(nil), impl.ErrInvalid)
	}
	for _, wall := range [][]string{{"S"}, {"S", "S"}, {"SS", "SS"}, {"SSS", "HCHHHHC", "SSS"}, slices.Repeat([]string{repeated(50, "S")}, 40)} {
		for _, lap := range outside(1, 4) {
			check(wall, lap, impl.ErrRange)
		}
	}
}

// wantedRuns returns the course of a short text by a pattern of such texts.
func wantedRuns(s string) (string, bool) {
	if !regexp.MustCompile(`\A[1-9][0-9]?[SHTBC]( [1-9][0-9]?[SHTBC])*\z`).MatchString(s) {
		return "", false
	}
	course, before := "", byte(0)
	for _, word := range strings.Split(s, " ") {
		count, _ := strconv.Atoi(word[:len(word)-1])
		piece := word[len(word)-1]
		if piece == before {
			return "", false
		}
		course += strings.Repeat(string(piece), count)
		before = piece
	}
	if _, length := wantedPerpends(course); len(course) > 60 || length > 200 {
		return "", false
	}
	return course, true
}

func TestCourseRuns(t *testing.T) {
	known := map[string]string{
		"HCHHHHC": "1H 1C 4H 1C", "S": "1S", "C": "1C", "SSS": "3S", "SHTBC": "1S 1H 1T 1B 1C", "SSHHHTTTTBBCC": "2S 3H 4T 2B 2C", "HBHB": "1H 1B 1H 1B", "SCCS": "1S 2C 1S", repeated(9, "C"): "9C", repeated(10, "C"): "10C", repeated(11, "C", 1, "H"): "11C 1H",
		repeated(60, "T"): "60T", repeated(60, "C"): "60C", repeated(50, "S"): "50S", repeated(40, "S", 20, "H"): "40S 20H", repeated(1, "B", 49, "S", 1, "B"): "1B 49S 1B", repeated(30, "HC"): strings.Repeat("1H 1C ", 29) + "1H 1C", repeated(20, "CCH"): strings.Repeat("2C 1H ", 19) + "2C 1H",
	}
	for course, s := range known {
		expect(t, fmt.Sprintf("CourseRuns(%q)", course), values(impl.CourseRuns(course)), s)
		expect(t, fmt.Sprintf("ReadRuns(%q)", s), values(impl.ReadRuns(s)), course, true)
	}
	for _, course := range slices.Concat(append(mixedWalls(), validCourses(), coursesOf(9))...) {
		s := impl.CourseRuns(course)
		want, ok := wantedRuns(s)
		expect(t, fmt.Sprintf("CourseRuns(%q), which is %q", course, s), values(want, ok), course, true)
		expect(t, fmt.Sprintf("ReadRuns(%q)", s), values(impl.ReadRuns(s)), course, true)
	}
}

func TestReadRunsOfOthers(t *testing.T) {
	others := []string{
		// empty, and blanks that are too many
		"", " ", "  ", " 3S", "3S ", "3S  1C", "3S  1C  2H", " 3S 1C", "3S 1C ", "  3S", "3S  ", " 3S ", "3 S", "3S 1 C", "3S\t1C", "3S\n1C", "3S\n", "\n3S", "3S\u00a01C", "3S\x00", "3S\r",
		// a number of 0, with a sign, a leading zero, or too great
		"0S", "0S 1C", "1C 0S", "00S", "-1S", "+1S", "+3S", "-0S", "1C -1S 1C", "03S", "003S", "01S", "3S 01C", "1S 010C", "61C", "61H", "99C", "100C", "1000C", "51S", "60S", "67T", "200C", "201C", "4294967297S", "18446744073709551617S", "999999999999999999S", "9223372036854775807S", "1000000000000000000C", "1000000000000000000000C", "-9223372036854775808S",
		// two runs of the same piece
		"1S 1S", "3S 1S", "1H 1C 2H 2H 1C", "1H 1C 4H 1C 1C", "1H 1H 1C", "30C 30C", "2C 2C 2C",
		// a letter that is no piece
		"3s", "3X", "3", "3x", "1A", "1D", "3h", "3Ｓ", "3\xff", "3É", "3S 1c", "3S 1X 1C", "1+ 1S", "1- 1S",
		// a missing number or letter, several of them, or in another order
		"S", "SSS", "HCHHHHC", "S 1C", "1C S", "1S C 1H", "1S 1 1H", "1 1S", "1S 1", "3SS", "3SH", "2S2H", "1H1C4H1C", "S3", "S3 C1", "SS3", "3S3", "3 3S", "3S,1C", "3S, 1C", "3S+1C", "3*S", "3xS", "3S1C", "1HC", "3S HC",
		// numbers in another form
		"3.0S", "3.S", "1e1S", "0x3S", "0b1C", "1_0C", "３S", "٣S", "IIIS",
		// more than MaxPieces pieces or MaxQuarters quarters together
		"60C 1H", "1H 60C", "30C 31H", "20C 20H 21C", "59C 2H", "50S 1C", "1C 50S", "49S 1T 1B", "40S 19H 1T", "41S 18H 1C", "25S 1C 25S", "50S 50S", "60T 60C", "60C 60H 60C",
		"wall-3", "english", "1S 1H 1T 1B 1C 1D",
	}
	for _, s := range others {
		expect(t, fmt.Sprintf("ReadRuns(%q)", s), values(impl.ReadRuns(s)), "", false)
		if _, ok := wantedRuns(s); ok {
			t.Errorf("%q is a short text", s)
		}
	}
	for _, s := range []string{strings.Repeat("1S", 50000), strings.Repeat("1S 1C ", 50000), strings.Repeat("60S ", 100000) + "60S", strings.Repeat(" ", 100000), strings.Repeat("S", 100000), strings.Repeat("1", 100000) + "S", strings.Repeat("0", 100000) + "1S", "1C" + strings.Repeat(" 1C", 60)} {
		expect(t, fmt.Sprintf("ReadRuns(%.30q...)", s), values(impl.ReadRuns(s)), "", false)
	}
}

// TestReadRunsOfEachNumber counts each number of each piece up, alone and beside other runs.
func TestReadRunsOfEachNumber(t *testing.T) {
	for n := -70; n <= 210; n++ {
		for _, piece := range "SHTBCsX" {
			for _, form := range []string{"%d%c", "1T %d%c", "%d%c 2H", "19S %d%c 2C", "%d%c 40C", "1S %d%c %[1]d%[2]c"} {
				s := fmt.Sprintf(form, n, piece)
				course, ok := wantedRuns(s)
				expect(t, fmt.Sprintf("ReadRuns(%q)", s), values(impl.ReadRuns(s)), course, ok)
			}
		}
	}
}

// TestReadRunsOfChangedTexts changes, adds and leaves out each byte of a text.
func TestReadRunsOfChangedTexts(t *testing.T) {
	right := 0
	check := func(s string) {
		t.Helper()
		course, ok := wantedRuns(s)
		if ok {
			right++
		}
		expect(t, fmt.Sprintf("ReadRuns(%q)", s), values(impl.ReadRuns(s)), course, ok)
		if ok {
			expect(t, fmt.Sprintf("CourseRuns(%q)", course), values(impl.CourseRuns(course)), s)
		}
	}
	for _, text := range []string{"1H 1C 4H 1C", "3S", "40S 20H", "12C 2H 46S", "1S 1H 1T 1B 1C"} {
		for _, s := range changedTexts(text) {
			check(s)
		}
	}
	expect(t, "some of them are short texts", values(right > 100), true)
}

// TestPromise1Walls: every function of chapter 6 returns for all arguments, changes none, and keeps none of its results.
func TestPromise1Walls(t *testing.T) {
	for _, course := range append(validCourses(), invalidTexts()...) {
		perpends, code := impl.CoursePerpends(course)
		before := slices.Clone(perpends)
		spoil(perpends, 77)
		again, againCode := impl.CoursePerpends(course)
		expect(t, fmt.Sprintf("CoursePerpends(%.80q) again", course), values(slices.Equal(again, before), againCode), true, code)
		expect(t, "ValidCourse", values(impl.ValidCourse(course)), impl.ValidCourse(course))
		expect(t, "CourseLength", values(impl.CourseLength(course)), values(impl.CourseLength(course))...)
		expect(t, "CutsIn", values(impl.CutsIn(course)), values(impl.CutsIn(course))...)
		expect(t, "MirrorCourse", values(impl.MirrorCourse(course)), values(impl.MirrorCourse(course))...)
		expect(t, "CourseRuns", values(impl.CourseRuns(course)), impl.CourseRuns(course))
		expect(t, "ReadRuns", values(impl.ReadRuns(course)), values(impl.ReadRuns(course))...)
	}
	for _, one := range append(validWalls(), invalidWalls()...) {
		wall, unchanged := guardedWall(one)
		counts, code := impl.CountPieces(wall)
		before := slices.Clone(counts)
		spoil(counts, 77)
		expect(t, fmt.Sprintf("CountPieces(%.80q) again", wall), values(impl.CountPieces(wall)), before, code)
		expect(t, "ValidWall", values(impl.ValidWall(wall)), impl.ValidWall(wall))
		for _, lap := range append([]int64{2, 3, 4, 5}, extremes...) {
			expect(t, "FirstClash", values(impl.FirstClash(wall, lap)), values(impl.FirstClash(wall, lap))...)
			expect(t, "IsBonded", values(impl.IsBonded(wall, lap)), values(impl.IsBonded(wall, lap))...)
		}
		unchanged(t, fmt.Sprintf("a function of %.80q", wall))
	}
	numbers := append([]int64{2, 12, 40, 41, 200, 201, 1000, 1001}, extremes...)
	for _, bond := range append(slices.Clone(libraryBonds), append(validBonds()[100:130], invalidBonds()[:40]...)...) {
		b, unchanged := guardedBond(bond)
		for _, length := range numbers {
			for _, n := range numbers {
				wall, code := impl.LayWall(b, length, n)
				before := slices.Clone(wall)
				spoil(wall, "spoilt")
				expect(t, "LayWall again", values(impl.LayWall(b, length, n)), before, code)
				expect(t, "LayCourse", values(impl.LayCourse(b, n, length)), values(impl.LayCourse(b, n, length))...)
			}
		}
		unchanged(t, fmt.Sprintf("a function of %q", b))
	}
}
