package tests

import (
	"cmp"
	"fmt"
	"slices"
	"strings"
	"testing"

	"loop.example/g01042/impl"
)

// cutsOf counts the cut pieces of some courses together.
func cutsOf(courses ...string) int {
	all := strings.Join(courses, "")
	return strings.Count(all, "T") + strings.Count(all, "B") + strings.Count(all, "C")
}

// compareLaid orders lists of one course, or of a lower and an upper one: a better list is less.
func compareLaid(a, b []string) int {
	return cmp.Or(
		cmp.Compare(cutsOf(a...), cutsOf(b...)),
		cmp.Compare(len(strings.Join(a, "")), len(strings.Join(b, ""))),
		slices.Compare(a, b),
	)
}

// betterLaid returns the better one of two lists of courses; nil stands for none.
func betterLaid(a, b []string) []string {
	if a == nil || b != nil && compareLaid(b, a) < 0 {
		return b
	}
	return a
}

// perpendBits returns the perpends of a course, as bits.
func perpendBits(course string) uint64 {
	set := uint64(0)
	perpends, _ := wantedPerpends(course)
	for _, place := range perpends {
		set |= 1 << place
	}
	return set
}

// nearBits returns all places that are less than lap away from some place of a set.
func nearBits(set uint64, lap int64) uint64 {
	near := set
	for k := int64(1); k < lap; k++ {
		near |= set<<k | set>>k
	}
	return near
}

// wantedCourse returns the best course with a length and with free perpends, alone in a list; nil if there is none.
// It keeps the best beginning until each place: which one is the best does not depend on the pieces behind it.
func wantedCourse(length int64, isFree func(place int64) bool) []string {
	best := map[int64][]string{0: {""}}
	for place := int64(1); place <= length; place++ {
		for piece, quarters := range pieceQuarters {
			if begun := best[place-quarters]; begun != nil && (place == length || isFree(place)) {
				best[place] = betterLaid(best[place], []string{begun[0] + string(piece)})
			}
		}
	}
	return best[length]
}

// wantedAbove returns the best course above another one, alone in a list; nil if there is none.
func wantedAbove(below string, lap int64) []string {
	perpends, length := wantedPerpends(below)
	return wantedCourse(length, func(place int64) bool {
		return !slices.ContainsFunc(perpends, func(p int64) bool { return p-place < lap && place-p < lap })
	})
}

// piecesTo returns the pieces that may end at a place behind another one, and the empty text if none has to end there.
func piecesTo(from, place, length int64) []string {
	var list []string
	if place < length && place-from < 4 {
		list = append(list, "")
	}
	for piece, quarters := range pieceQuarters {
		if place-from == quarters {
			list = append(list, string(piece))
		}
	}
	return list
}

// wantedPair returns the best pair without a clash; nil if there is none.
// It goes from place to place in both courses at once, and keeps the best beginnings for the last ends of pieces.
func wantedPair(length, lap int64) []string {
	type ends struct{ low, high int64 }
	best := map[ends][]string{{}: {"", ""}}
	for place := int64(1); place <= length; place++ {
		begun := best
		best = map[ends][]string{}
		for at, courses := range begun {
			for _, low := range piecesTo(at.low, place, length) {
				for _, high := range piecesTo(at.high, place, length) {
					next := at
					if low != "" {
						next.low = place
					}
					if high != "" {
						next.high = place
					}
					isClash := place < length && min(next.low, next.high) > 0 && max(next.low-next.high, next.high-next.low) < lap
					if !isClash {
						best[next] = betterLaid(best[next], []string{courses[0] + low, courses[1] + high})
					}
				}
			}
		}
	}
	return best[ends{length, length}]
}

// expectAlone checks the best course with a length.
func expectAlone(t *testing.T, length int64, want []string) {
	t.Helper()
	expect(t, fmt.Sprintf("BestCourse(%d)", length), values(impl.BestCourse(length)), want[0], impl.OK)
	expect(t, fmt.Sprintf("FewestCuts(%d)", length), values(impl.FewestCuts(length)), cutsOf(want...), impl.OK)
}

// expectAbove checks the best course above another one; nil stands for none.
func expectAbove(t *testing.T, below string, lap int64, want []string) {
	t.Helper()
	course, code := "", impl.ErrNotFound
	if want != nil {
		course, code = want[0], impl.OK
	}
	expect(t, fmt.Sprintf("BestAbove(%q, %d)", below, lap), values(impl.BestAbove(below, lap)), course, code)
	expect(t, fmt.Sprintf("CutsAbove(%q, %d)", below, lap), values(impl.CutsAbove(below, lap)), cutsOf(course), code)
}

// expectPair checks the best pair with a length; nil stands for none.
func expectPair(t *testing.T, length, lap int64, want []string) {
	t.Helper()
	low, high, code := "", "", impl.ErrNotFound
	if want != nil {
		low, high, code = want[0], want[1], impl.OK
	}
	expect(t, fmt.Sprintf("BestPair(%d, %d)", length, lap), values(impl.BestPair(length, lap)), low, high, code)
	expect(t, fmt.Sprintf("PairCuts(%d, %d)", length, lap), values(impl.PairCuts(length, lap)), cutsOf(low, high), code)
}

// belowCourses are courses of up to MaxPair quarters: all short ones, laid and mixed ones, and some with just MaxPair quarters.
func belowCourses() []string {
	var list []string
	for length := int64(1); length <= 6; length++ {
		list = append(list, coursesOf(length)...)
	}
	for seed := int64(1); seed <= 150; seed++ {
		list = append(list, mixedWall(seed, 7+seed%54, 1)...)
	}
	for k := range 20 {
		list = append(list, repeated(20-k, "S", 2*k, "H"), repeated(2*k, "H", 20-k, "S"), repeated(k, "S", 1, "TC", 19-k, "S"), repeated(k, "T", 1, "S"), repeated(1, "C", k, "S"), repeated(k, "B", 1, "T"))
	}
	return append(list,
		repeated(40, "H"), repeated(40, "B"), repeated(20, "S"), repeated(40, "C", 20, "H"), repeated(20, "H", 40, "C"), repeated(20, "CCH"), repeated(26, "T", 1, "B"), repeated(1, "B", 26, "T"), repeated(1, "CC", 26, "T"), repeated(1, "C", 19, "S", 1, "T"), repeated(1, "T", 19, "S"), repeated(60, "C"), repeated(10, "SHCC"), repeated(10, "SC", 15, "B"),
	)
}

// longCourses are courses of more than MaxPair quarters. Some of them would leave no course without a clash.
func longCourses() []string {
	return []string{
		repeated(20, "S", 1, "C"), repeated(1, "C", 20, "S"), repeated(40, "H", 1, "C"), repeated(27, "T"), repeated(39, "C", 21, "H"), repeated(20, "S", 1, "H"), repeated(20, "S", 1, "B"), repeated(21, "S"), repeated(41, "H"), repeated(41, "B"), repeated(30, "HC"), repeated(60, "H"), repeated(60, "T"), repeated(50, "S"), repeated(40, "S", 20, "H"),
	}
}

func TestCutConstants(t *testing.T) {
	expect(t, "constants", values(impl.MaxPair), 80)
}

// TestCutsExample is the example of chapter 8.
func TestCutsExample(t *testing.T) {
	expect(t, "BestPair(10, 1)", values(impl.BestPair(10, 1)), "HSS", "SSH", impl.OK)
	expect(t, "PairCuts(10, 1)", values(impl.PairCuts(10, 1)), 0, impl.OK)
}

func TestBestCourse(t *testing.T) {
	known := map[int64]string{
		// a single piece: a header is not cut, as a half bat is
		1: "C", 2: "H", 3: "T", 4: "S",
		// no whole bricks fit into odd lengths; of all courses with one cut piece, those with the fewest pieces have a closer or a three-quarter bat
		5: "CS", 7: "ST", 9: "CSS", 11: "SST", 13: "CSSS", 15: "SSST", 77: repeated(1, "C", 19, "S"), 79: repeated(19, "S", 1, "T"),
		// one header for what stretchers leave: where it stands does not matter for the number of pieces
		6: "HS", 8: "SS", 10: "HSS", 12: "SSS", 14: "HSSS", 16: "SSSS", 78: repeated(1, "H", 19, "S"), 80: repeated(20, "S"),
	}
	for length, course := range known {
		expectAlone(t, length, []string{course})
	}
}

// TestPromise8Courses: no course with this length has fewer cuts than the best one, for each length.
func TestPromise8Courses(t *testing.T) {
	for length := int64(1); length <= 12; length++ {
		var all [][]string
		for _, course := range coursesOf(length) {
			all = append(all, []string{course})
		}
		expectAlone(t, length, slices.MinFunc(all, compareLaid))
	}
	for length := int64(1); length <= impl.MaxPair; length++ {
		expectAlone(t, length, wantedCourse(length, func(int64) bool { return true }))
		expect(t, fmt.Sprintf("FewestCuts(%d)", length), values(impl.FewestCuts(length)), length%2, impl.OK)
		course, _ := impl.BestCourse(length)
		expect(t, "its length", values(impl.CourseLength(course)), length, impl.OK)
	}
}

func TestBestAbove(t *testing.T) {
	// The empty text stands for none, in the order of the laps from 1 to 4.
	known := map[string][4]string{
		// a single piece below: no perpend is in the way
		"S": {"S", "S", "S", "S"}, "H": {"H", "H", "H", "H"}, "T": {"T", "T", "T", "T"}, "B": {"H", "H", "H", "H"}, "C": {"C", "C", "C", "C"},
		// a single piece above: it has no perpend
		"HH": {"S", "S", "S", "S"}, "CC": {"H", "H", "H", "H"}, "CB": {"T", "T", "T", "T"}, "CCCC": {"S", "S", "S", "S"}, "HCC": {"S", "S", "S", "S"},
		// the best course alone has no clash, or only for a greater lap
		"HSSH": {"SSS", "SSS"}, "SH": {"HS", "HS"}, "TTT": {"CSS"}, "HCHHHHC": {"SSS"}, "TB": {"CS", "CS"}, "SC": {"CS", "CS", "CS"},
		// otherwise a course with as few cut pieces and as many pieces, in the order of texts, or one with more pieces
		"HS": {"SH", "SH"}, "BT": {"CS", "SC"}, "CS": {"HT", "SC", "SC"}, "SS": {"HSH", "HSH"}, "STS": {"CSSH"}, "SSS": {"HSSH", "HSSH"},
		// or one with more cut pieces
		"HHHH": {"CST"}, "SHS": {"TST"}, "BBB": {"TT"}, "CSC": {"HS", "TT"}, "HHHHH": {"TST"},
		// only cut pieces below, and courses that leave no place for perpends where there must be one
		"BCB": {"CS"}, "TBC": {"HS"}, "BBT": {"TS"}, "CBBCC": {"ST"}, "CCCCC": {}, "CCCCCC": {}, "CTBCC": {"HTT"},
		// both ends of the length are no perpends: pieces may be near to them
		"HSH": {"SS", "SS"}, "CTS": {"HSH"},
	}
	for below, courses := range known {
		for lap, course := range courses {
			var want []string
			if course != "" {
				want = []string{course}
			}
			expectAbove(t, below, int64(lap+1), want)
		}
	}
}

// TestPromise8Above: no course above any short course has fewer cuts than the best one, and there is none if none is told.
func TestPromise8Above(t *testing.T) {
	// How many belows leave no course, just one, or several ones.
	left := [3]int{}
	for length := int64(1); length <= 8; length++ {
		courses := coursesOf(length)
		slices.SortFunc(courses, func(a, b string) int { return compareLaid([]string{a}, []string{b}) })
		for _, below := range courses {
			for lap := int64(1); lap <= 4; lap++ {
				var best []string
				count := 0
				for _, above := range courses {
					if perpendBits(above)&nearBits(perpendBits(below), lap) == 0 {
						if count == 0 {
							best = []string{above}
						}
						count++
					}
				}
				left[min(count, 2)]++
				expectAbove(t, below, lap, best)
			}
		}
	}
	expect(t, "there are courses of all these kinds", values(left[0] > 100, left[1] > 100, left[2] > 100), true, true, true)
}

// TestAboveLongCourses: the best course above a course of up to MaxPair quarters.
func TestAboveLongCourses(t *testing.T) {
	found := map[bool]int{}
	for _, below := range belowCourses() {
		for lap := int64(1); lap <= 4; lap++ {
			want := wantedAbove(below, lap)
			expectAbove(t, below, lap, want)
			found[want != nil && len(below) > 10]++
			if course, code := impl.BestAbove(below, lap); code == impl.OK {
				expect(t, fmt.Sprintf("%q above %q is bonded", course, below), values(impl.IsBonded([]string{below, course}, lap)), true, impl.OK)
			}
		}
	}
	expect(t, "there are courses above long ones", values(found[true] > 100, found[false] > 100), true, true)
	known := []struct {
		below string
		lap   int64
		want  []string
	}{
		// just MaxPair quarters
		{repeated(20, "S"), 2, []string{repeated(1, "H", 19, "S", 1, "H")}}, {repeated(20, "S"), 3, nil}, {repeated(1, "H", 19, "S", 1, "H"), 2, []string{repeated(20, "S")}}, {repeated(40, "H"), 1, []string{repeated(1, "C", 19, "S", 1, "T")}}, {repeated(40, "B"), 1, []string{repeated(1, "C", 19, "S", 1, "T")}}, {repeated(40, "H"), 2, nil}, {repeated(40, "C", 20, "H"), 1, nil},
	}
	for _, k := range known {
		expectAbove(t, k.below, k.lap, k.want)
	}
}

// TestBestPair: the texts of pairs have the lower course first; the empty text stands for none, in the order of the laps from 1 to 4.
func TestBestPair(t *testing.T) {
	known := map[int64][4]string{
		// single pieces have no perpends: all laps have a pair
		1: {"C C", "C C", "C C", "C C"}, 2: {"H H", "H H", "H H", "H H"}, 3: {"T T", "T T", "T T", "T T"}, 4: {"S S", "S S", "S S", "S S"},
		// the lower course is the best one alone, and the upper one is the first one of several
		5: {"CS HT", "CS SC", "CS SC"}, 6: {"HS SH", "HS SH"}, 10: {"HSS SSH", "HSS SSH"}, 9: {"CSS HST", "CSS TSH"}, 13: {"CSSS HSST", "CSSS TSSH"},
		// the lower course is not the best one alone, which may be the upper one, or none of both
		7: {"ST TS", "CSH TS"}, 8: {"HSH SS", "HSH SS"}, 11: {"SST TSS", "CSSH TSS"}, 12: {"HSSH SSS", "HSSH SSS"},
		// no perpends of longer courses are far enough from one another for the laps 3 and 4
		79: {repeated(19, "S", 1, "T ", 1, "T", 19, "S"), repeated(1, "C", 19, "S", 1, "H T", 19, "S")}, 80: {repeated(1, "H", 19, "S", 1, "H ", 20, "S"), repeated(1, "H", 19, "S", 1, "H ", 20, "S")},
	}
	for length, pairs := range known {
		for lap, pair := range pairs {
			var want []string
			if pair != "" {
				want = strings.Split(pair, " ")
			}
			expectPair(t, length, int64(lap+1), want)
		}
	}
}

// TestPromise8Pairs: no pair of any two short courses has fewer cuts than the best one, and there is none if none is told.
func TestPromise8Pairs(t *testing.T) {
	for length := int64(1); length <= 11; length++ {
		courses := coursesOf(length)
		var perpends []uint64
		for _, course := range courses {
			perpends = append(perpends, perpendBits(course))
		}
		for lap := int64(1); lap <= 4; lap++ {
			var best []string
			for k, low := range courses {
				near := nearBits(perpends[k], lap)
				for m, high := range courses {
					if perpends[m]&near == 0 {
						best = betterLaid(best, []string{low, high})
					}
				}
			}
			expectPair(t, length, lap, best)
		}
	}
}

// TestPromise8AllPairs: the best pair for each length and each lap, and how it stands to the best course above its lower one.
func TestPromise8AllPairs(t *testing.T) {
	for length := int64(1); length <= impl.MaxPair; length++ {
		for lap := int64(1); lap <= 4; lap++ {
			want := wantedPair(length, lap)
			expectPair(t, length, lap, want)
			expect(t, fmt.Sprintf("there is a pair with the length %d for the lap %d", length, lap), values(want != nil), length <= 4 || lap <= 2 || length == 5 && lap == 3)
			if want == nil {
				continue
			}
			expect(t, fmt.Sprintf("%q is bonded", want), values(impl.IsBonded(want, lap)), true, impl.OK)
			expectAbove(t, want[0], lap, want[1:])
		}
	}
}

func TestWallOf(t *testing.T) {
	pairs := [][2]string{{"HSS", "SSH"}, {"S", "S"}, {"S", "CCCC"}, {"C", "C"}, {"SSS", "HCHHHHC"}, {"HH", "HH"}, {repeated(50, "S"), repeated(20, "H", 40, "S")}, {repeated(60, "C"), repeated(15, "S")}, {repeated(60, "T"), repeated(45, "S")}, {"SSC", "TTT"}}
	for _, p := range pairs {
		for courses := int64(1); courses <= impl.MaxCourses; courses++ {
			want := slices.Repeat(p[:], 20)[:courses]
			wall, code := impl.WallOf(p[0], p[1], courses)
			expect(t, fmt.Sprintf("WallOf(%q, %q, %d)", p[0], p[1], courses), values(wall, code, impl.ValidWall(wall)), want, impl.OK, true)
		}
	}
	for length := int64(1); length <= impl.MaxPair; length++ {
		for lap := int64(1); lap <= 4; lap++ {
			low, high, code := impl.BestPair(length, lap)
			if code != impl.OK {
				continue
			}
			wall, code := impl.WallOf(low, high, impl.MaxCourses)
			expect(t, fmt.Sprintf("WallOf(%q, %q, %d)", low, high, impl.MaxCourses), values(code, len(wall)), impl.OK, impl.MaxCourses)
			expect(t, fmt.Sprintf("the wall of %q and %q is bonded", low, high), values(impl.IsBonded(wall, lap)), true, impl.OK)
		}
	}
}

func TestWastedQuarters(t *testing.T) {
	known := map[string]int64{
		"S": 0, "H": 0, "T": 1, "B": 2, "C": 3, "SSS": 0, "HSS": 0, "SHSH": 0, "TBC": 6, "CBT": 6, "SHTBC": 6, "HCHHHHC": 6, "SSSB": 2, "SST": 1, "CSS": 3, "TT": 2, "BB": 4, "CC": 6, "CTC": 7, "BTB": 5,
		repeated(50, "S"): 0, repeated(60, "H"): 0, repeated(60, "T"): 60, repeated(60, "B"): 120, repeated(60, "C"): 180, repeated(40, "S", 20, "B"): 40, repeated(12, "SHTBC"): 72,
	}
	for course, wasted := range known {
		expect(t, fmt.Sprintf("WastedQuarters(%q)", course), values(impl.WastedQuarters(course)), wasted, impl.OK)
	}
	for _, course := range append(validCourses(), belowCourses()...) {
		wasted := int64(0)
		for k := range len(course) {
			if strings.Contains("TBC", course[k:k+1]) {
				wasted += 4 - pieceQuarters[course[k]]
			}
		}
		expect(t, fmt.Sprintf("WastedQuarters(%q)", course), values(impl.WastedQuarters(course)), wasted, impl.OK)
	}
}

func TestLengthsWithout(t *testing.T) {
	for until := int64(1); until <= impl.MaxPair; until++ {
		for lap := int64(1); lap <= 4; lap++ {
			// Stretchers in one course and headers at both ends of the other one are half a stretcher apart, but no more.
			want := []int64{}
			for length := int64(2); length <= until; length += 2 {
				if lap <= 2 || length <= 4 {
					want = append(want, length)
				}
			}
			lengths, code := impl.LengthsWithout(until, lap)
			if code != impl.OK || !slices.Equal(lengths, want) {
				t.Errorf("LengthsWithout(%d, %d): got %v %d, want %v 0", until, lap, lengths, code, want)
			}
		}
	}
	for lap := int64(1); lap <= 4; lap++ {
		lengths, _ := impl.LengthsWithout(impl.MaxPair, lap)
		for length := int64(1); length <= impl.MaxPair; length++ {
			cuts, code := impl.PairCuts(length, lap)
			expect(t, fmt.Sprintf("LengthsWithout(80, %d) has %d", lap, length), values(slices.Contains(lengths, length)), code == impl.OK && cuts == 0)
		}
	}
}

// TestCutErrors: the errors of all functions of cuts in their order, each beside zero values.
func TestCutErrors(t *testing.T) {
	for _, length := range outside(1, 80) {
		expect(t, fmt.Sprintf("FewestCuts(%d)", length), values(impl.FewestCuts(length)), 0, impl.ErrRange)
		expect(t, fmt.Sprintf("BestCourse(%d)", length), values(impl.BestCourse(length)), "", impl.ErrRange)
	}
	expectPairErrors := func(length, lap int64) {
		t.Helper()
		expect(t, fmt.Sprintf("PairCuts(%d, %d)", length, lap), values(impl.PairCuts(length, lap)), 0, impl.ErrRange)
		expect(t, fmt.Sprintf("BestPair(%d, %d)", length, lap), values(impl.BestPair(length, lap)), "", "", impl.ErrRange)
		expect(t, fmt.Sprintf("LengthsWithout(%d, %d)", length, lap), values(impl.LengthsWithout(length, lap)), []int64(nil), impl.ErrRange)
	}
	for _, length := range append([]int64{1, 5, 10, 80}, outside(1, 80)...) {
		for _, lap := range outside(1, 4) {
			expectPairErrors(length, lap)
		}
	}
	for _, length := range outside(1, 80) {
		for lap := int64(1); lap <= 4; lap++ {
			expectPairErrors(length, lap)
		}
	}
	for _, text := range invalidTexts() {
		expect(t, fmt.Sprintf("WastedQuarters(%.80q)", text), values(impl.WastedQuarters(text)), 0, impl.ErrInvalid)
	}
}

// TestAboveErrors: an invalid course below, then a lap out of range, then a course that is too long, and then none above it.
func TestAboveErrors(t *testing.T) {
	check := func(below string, lap, code int64) {
		t.Helper()
		expect(t, fmt.Sprintf("BestAbove(%.80q, %d)", below, lap), values(impl.BestAbove(below, lap)), "", code)
		expect(t, fmt.Sprintf("CutsAbove(%.80q, %d)", below, lap), values(impl.CutsAbove(below, lap)), 0, code)
	}
	for _, text := range invalidTexts() {
		for _, lap := range append([]int64{1, 4}, outside(1, 4)...) {
			check(text, lap, impl.ErrInvalid)
		}
	}
	for _, below := range append(longCourses(), "S", "SS", "CCCCC", "HHH", repeated(20, "S"), repeated(40, "C", 20, "H")) {
		for _, lap := range outside(1, 4) {
			check(below, lap, impl.ErrRange)
		}
	}
	for _, below := range longCourses() {
		for lap := int64(1); lap <= 4; lap++ {
			check(below, lap, impl.ErrFull)
		}
	}
	for _, below := range []string{"CCCCC", "CCCCCC", repeated(60, "C"), repeated(40, "C", 20, "H")} {
		for lap := int64(1); lap <= 4; lap++ {
			check(below, lap, impl.ErrNotFound)
		}
	}
}

// TestWallOfErrors: an invalid course, then a number of courses out of range, and then different lengths.
func TestWallOfErrors(t *testing.T) {
	check := func(low, high string, courses, code int64) {
		t.Helper()
		expect(t, fmt.Sprintf("WallOf(%.80q, %.80q, %d)", low, high, courses), values(impl.WallOf(low, high, courses)), []string(nil), code)
	}
	for _, text := range invalidTexts() {
		for _, courses := range append([]int64{1, 2, 40}, outside(1, 40)...) {
			check(text, "SSS", courses, impl.ErrInvalid)
			check("SSS", text, courses, impl.ErrInvalid)
			check(text, text, courses, impl.ErrInvalid)
		}
	}
	for _, p := range [][2]string{{"HSS", "SSH"}, {"S", "S"}, {"S", "H"}, {"SSS", "HCHHHH"}, {repeated(50, "S"), repeated(60, "C")}} {
		for _, courses := range outside(1, 40) {
			check(p[0], p[1], courses, impl.ErrRange)
		}
	}
	// Courses differ in their quarters: neither in their pieces nor in their number.
	for _, p := range [][2]string{{"S", "H"}, {"H", "C"}, {"SSS", "SSH"}, {"SSS", "HCHHHH"}, {"SS", "HH"}, {"CCCC", "CCC"}, {repeated(50, "S"), repeated(49, "S", 1, "T")}, {repeated(60, "C"), repeated(59, "C")}} {
		for _, courses := range []int64{1, 2, 3, 39, 40} {
			check(p[0], p[1], courses, impl.ErrClash)
			check(p[1], p[0], courses, impl.ErrClash)
		}
	}
}

// TestPromise1Cuts: every function of chapter 8 returns for all arguments, and keeps none of its results.
func TestPromise1Cuts(t *testing.T) {
	numbers := append([]int64{2, 3, 4, 5, 9, 10, 40, 41, 79, 80, 81, 200}, extremes...)
	for _, n := range numbers {
		expect(t, "FewestCuts", values(impl.FewestCuts(n)), values(impl.FewestCuts(n))...)
		expect(t, "BestCourse", values(impl.BestCourse(n)), values(impl.BestCourse(n))...)
		for _, lap := range numbers {
			expect(t, "PairCuts", values(impl.PairCuts(n, lap)), values(impl.PairCuts(n, lap))...)
			expect(t, "BestPair", values(impl.BestPair(n, lap)), values(impl.BestPair(n, lap))...)
			lengths, code := impl.LengthsWithout(n, lap)
			before := slices.Clone(lengths)
			spoil(lengths, 77)
			expect(t, fmt.Sprintf("LengthsWithout(%d, %d) again", n, lap), values(impl.LengthsWithout(n, lap)), before, code)
		}
	}
	courses := slices.Concat([]string{"S", "HSS", "SSH", "TBC"}, belowCourses()[120:160], longCourses(), invalidTexts()[:40])
	for _, course := range courses {
		expect(t, "WastedQuarters", values(impl.WastedQuarters(course)), values(impl.WastedQuarters(course))...)
		for _, n := range numbers {
			expect(t, "BestAbove", values(impl.BestAbove(course, n)), values(impl.BestAbove(course, n))...)
			expect(t, "CutsAbove", values(impl.CutsAbove(course, n)), values(impl.CutsAbove(course, n))...)
			for _, other := range []string{course, "HSS", "", "x"} {
				wall, code := impl.WallOf(course, other, n)
				before := slices.Clone(wall)
				spoil(wall, "spoilt")
				expect(t, fmt.Sprintf("WallOf(%.80q, %.80q, %d) again", course, other, n), values(impl.WallOf(course, other, n)), before, code)
			}
		}
	}
}
