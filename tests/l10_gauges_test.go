package tests

import (
	"fmt"
	"math/big"
	"slices"
	"strings"
	"testing"

	"loop.example/g01042/impl"
)

// Formats of storeys: even has courses of 80 millimetres, which have a half; ties has two numbers of courses with joints that are equally good.
var (
	even = impl.Format{Length: 240, Width: 115, Height: 70, Joint: 10}
	ties = impl.Format{Length: 240, Width: 115, Height: 50, Joint: 20}
	flat = impl.Format{Length: 240, Width: 115, Height: 30, Joint: 0}
	tall = impl.Format{Length: 240, Width: 115, Height: 150, Joint: 20}
)

// storeyFormats are formats with low and high bricks, with thin and thick joints.
func storeyFormats() []impl.Format {
	return []impl.Format{uk, even, ties, flat, tall, {Length: 240, Width: 115, Height: 30, Joint: 20}, {Length: 240, Width: 115, Height: 150, Joint: 0}, {Length: 240, Width: 115, Height: 45, Joint: 5}, {Length: 240, Width: 115, Height: 53, Joint: 7}, {Length: 240, Width: 115, Height: 113, Joint: 12}}
}

// storeyHeights are the limits, those beside them, and some between them with different remainders.
func storeyHeights() []int64 {
	list := []int64{100, 101, 102, 119, 120, 121, 150, 180, 200, 240, 300, 310, 5998, 5999, 6000}
	for n := int64(137); n < 6000; n += 211 {
		list = append(list, n)
	}
	return list
}

// rising returns some numbers from one on, each by a step greater than the one before it.
func rising(n int, from, step int64) []int64 {
	var list []int64
	for k := range int64(n) {
		list = append(list, from+k*step)
	}
	return list
}

// levelsFor returns lists of levels for a height: none, one, several and MaxLevels, at the limits and anywhere.
func levelsFor(height int64) [][]int64 {
	lists := [][]int64{nil, {}, {1}, {2}, {height - 1}, {height - 2}, {height / 2}, {1, height - 1}, {1, 2}, {1, 2, height - 2, height - 1}, {height / 3, height / 2, 2 * height / 3}, {33, 48, 77}, rising(20, 1, 1), rising(20, height-20, 1), rising(19, 3, 4), rising(20, 4, height/21), rising(20, height/21, height/21)}
	return lists
}

// wrongLevelsFor returns lists that are no levels for a height.
func wrongLevelsFor(height int64) [][]int64 {
	lists := [][]int64{
		{0}, {height}, {height + 1}, {-1}, {-height}, {0, 1}, {0, 50}, {50, height}, {50, height + 1}, {-1, 50}, {0, height}, {height - 1, height},
		// equal levels, and levels that fall
		{1, 1}, {50, 50}, {height - 1, height - 1}, {2, 1}, {50, 49}, {height - 1, 1}, {20, 30, 30, 40}, {20, 30, 29, 40}, {20, 30, 40, 20}, {20, 20, 30, 40}, {20, 30, 40, 40}, {40, 30, 20},
		// one too many, or very many
		rising(21, 1, 1), rising(22, 1, 1), rising(21, height-21, 1), rising(1000, 1, 1), make([]int64, 20), make([]int64, 21),
	}
	for k := range 20 {
		same, last, first := rising(20, 5, 3), rising(20, 5, 3), rising(20, 5, 3)
		same[k] = same[(k+1)%20]
		last[k], first[k] = height, 0
		lists = append(lists, same, last, first)
	}
	for _, n := range extremes {
		if n != 1 {
			lists = append(lists, []int64{n}, []int64{n, 50}, []int64{50, n}, []int64{1, n, height - 1})
		}
	}
	return lists
}

// wrongBeds are pairs that are no limits of joints.
func wrongBeds() [][2]int64 {
	list := [][2]int64{{-1, 0}, {-1, 40}, {-1, -1}, {0, 41}, {41, 41}, {40, 41}, {-1, 41}, {1, 0}, {2, 1}, {11, 10}, {40, 39}, {40, 0}, {15, 5}, {41, 40}}
	for _, n := range extremes {
		for _, m := range extremes {
			list = append(list, [2]int64{n, m}, [2]int64{n, 20}, [2]int64{20, n})
		}
	}
	return slices.DeleteFunc(list, func(x [2]int64) bool { return 0 <= x[0] && x[0] <= x[1] && x[1] <= 40 })
}

// wantedNearest returns the nearest one of the two integers about num / den, the greater one if both are as near.
func wantedNearest(num, den int64) int64 {
	low := num / den
	if below, above := num-low*den, (low+1)*den-num; above <= below {
		return low + 1
	}
	return low
}

// wantedMarks returns the marks of a storey rod, that with the number 0 included.
func wantedMarks(height, courses int64) []int64 {
	var marks []int64
	for k := range courses + 1 {
		marks = append(marks, wantedNearest(k*height, courses))
	}
	return marks
}

// wantedMarkFor looks at all marks of a rod: it returns the number of the nearest one, and how far it is.
func wantedMarkFor(marks []int64, level int64) (number, away int64) {
	number, away = -1, 1<<40
	for k, mark := range marks {
		if off := max(mark-level, level-mark); off < away {
			number, away = int64(k), off
		}
	}
	return number, away
}

// wantedOffs returns how far levels are from the nearest marks, and the sum of this.
func wantedOffs(height, courses int64, levels []int64) (off []int64, total int64) {
	marks := wantedMarks(height, courses)
	for _, level := range levels {
		_, away := wantedMarkFor(marks, level)
		off = append(off, away)
		total += away
	}
	return off, total
}

// wantedFits returns the numbers of courses for which equal joints are between two limits.
func wantedFits(f impl.Format, height, least, most int64) []int64 {
	var fits []int64
	for n := int64(1); n <= 40; n++ {
		if bed := wantedBed(f, height, n); bed.Cmp(big.NewRat(least, 1)) >= 0 && bed.Cmp(big.NewRat(most, 1)) <= 0 {
			fits = append(fits, n)
		}
	}
	return fits
}

// wantedBed returns the thickness of equal joints: what a course has beside its brick.
func wantedBed(f impl.Format, height, courses int64) *big.Rat {
	return new(big.Rat).Sub(big.NewRat(height, courses), big.NewRat(f.Height, 1))
}

// firstBest returns the first one of some numbers of courses with the least value; ErrNotFound if there are none.
func firstBest(courses []int64, valueOf func(n int64) *big.Rat) (int64, int64) {
	if len(courses) == 0 {
		return 0, impl.ErrNotFound
	}
	return slices.MinFunc(courses, func(a, b int64) int {
		if order := valueOf(a).Cmp(valueOf(b)); order != 0 {
			return order
		}
		return int(a - b)
	}), impl.OK
}

// offJoint tells how far equal joints are from those of a format.
func offJoint(f impl.Format, height int64) func(n int64) *big.Rat {
	return func(n int64) *big.Rat {
		off := new(big.Rat).Sub(wantedBed(f, height, n), big.NewRat(f.Joint, 1))
		return off.Abs(off)
	}
}

// offLevels tells the sum of how far levels are from the nearest marks.
func offLevels(height int64, levels []int64) func(n int64) *big.Rat {
	return func(n int64) *big.Rat {
		_, total := wantedOffs(height, n, levels)
		return big.NewRat(total, 1)
	}
}

func TestGaugeConstants(t *testing.T) {
	expect(t, "constants", values(impl.MaxStorey, impl.MaxLevels), 6000, 20)
}

// TestGaugesExample is the example of chapter 10.
func TestGaugesExample(t *testing.T) {
	expect(t, "MarksOf", values(impl.MarksOf(300, 4)), []int64{75, 150, 225, 300}, impl.OK)
}

func TestValidLevels(t *testing.T) {
	for _, height := range []int64{100, 101, 150, 3000, 5999, 6000} {
		for _, levels := range levelsFor(height) {
			list, unchanged := guarded(levels, 77)
			expect(t, fmt.Sprintf("ValidLevels(%v, %d)", levels, height), values(impl.ValidLevels(list, height)), true)
			unchanged(t, "ValidLevels")
		}
		for _, levels := range wrongLevelsFor(height) {
			list, unchanged := guarded(levels, 77)
			expect(t, fmt.Sprintf("ValidLevels(%v, %d)", levels, height), values(impl.ValidLevels(list, height)), false)
			unchanged(t, "ValidLevels")
		}
		for n := range 30 {
			expect(t, fmt.Sprintf("%d levels for %d", n, height), values(impl.ValidLevels(rising(n, 1, 3), height)), n <= 20)
		}
	}
	// No storey has such a height: there are no levels for it, not even none.
	for _, height := range append(outside(100, 6000), 1, 2, 3, 98, 99, 6001) {
		for _, levels := range [][]int64{nil, {}, {1}, {50}, {1, 2}, {98}, rising(20, 1, 1)} {
			expect(t, fmt.Sprintf("ValidLevels(%v, %d)", levels, height), values(impl.ValidLevels(levels, height)), false)
		}
	}
}

// TestValidLevelsAtEachEdge moves one number at a time.
func TestValidLevelsAtEachEdge(t *testing.T) {
	for n := int64(-200); n <= 6200; n++ {
		expect(t, fmt.Sprintf("the height %d", n), values(impl.ValidLevels(nil, n), impl.ValidLevels([]int64{}, n), impl.ValidLevels([]int64{99}, n)), n >= 100 && n <= 6000, n >= 100 && n <= 6000, n >= 100 && n <= 6000)
		expect(t, fmt.Sprintf("the height %d with the level 3000", n), values(impl.ValidLevels([]int64{3000}, n)), n > 3000 && n <= 6000)
		expect(t, fmt.Sprintf("the level %d", n), values(impl.ValidLevels([]int64{n}, 100), impl.ValidLevels([]int64{n}, 6000)), n > 0 && n < 100, n > 0 && n < 6000)
		expect(t, fmt.Sprintf("the level %d between 20 and 4000", n), values(impl.ValidLevels([]int64{20, n, 4000}, 6000)), n > 20 && n < 4000)
	}
}

func TestGaugeOf(t *testing.T) {
	known := []struct{ height, courses, num, den int64 }{
		{300, 4, 75, 1}, {310, 4, 155, 2}, {100, 1, 100, 1}, {100, 40, 5, 2}, {6000, 1, 6000, 1}, {6000, 40, 150, 1}, {6000, 7, 6000, 7}, {101, 40, 101, 40}, {5999, 40, 5999, 40}, {120, 36, 10, 3},
	}
	for _, k := range known {
		expect(t, fmt.Sprintf("GaugeOf(%d, %d)", k.height, k.courses), values(impl.GaugeOf(k.height, k.courses)), impl.Fraction{Num: k.num, Den: k.den}, impl.OK)
	}
	for _, height := range storeyHeights() {
		for courses := int64(1); courses <= 40; courses++ {
			expect(t, fmt.Sprintf("GaugeOf(%d, %d)", height, courses), values(impl.GaugeOf(height, courses)), fraction(big.NewRat(height, courses)), impl.OK)
		}
	}
}

func TestBedOf(t *testing.T) {
	known := []struct {
		f                         impl.Format
		height, courses, num, den int64
	}{
		{uk, 310, 4, 25, 2}, {uk, 300, 4, 10, 1}, {uk, 1000, 13, 155, 13}, {uk, 100, 1, 35, 1}, {uk, 6000, 1, 5935, 1}, {uk, 6000, 40, 85, 1}, {flat, 100, 3, 10, 3}, {flat, 6000, 40, 120, 1}, {tall, 150, 1, 0, 1}, {tall, 6000, 39, 50, 13},
		// joints of 0, and of one millimetre and of one less than the courses in all; their thickness in the format is no matter
		{uk, 260, 4, 0, 1}, {uk, 261, 4, 1, 4}, {uk, 263, 4, 3, 4}, {uk, 264, 4, 1, 1}, {tall, 6000, 40, 0, 1}, {flat, 1200, 40, 0, 1}, {flat, 1201, 40, 1, 40}, {flat, 1239, 40, 39, 40}, {flat, 1240, 40, 1, 1},
	}
	for _, k := range known {
		expect(t, fmt.Sprintf("BedOf(%v, %d, %d)", k.f, k.height, k.courses), values(impl.BedOf(k.f, k.height, k.courses)), impl.Fraction{Num: k.num, Den: k.den}, impl.OK)
	}
}

// TestPromise10Joints: the joints have what the bricks leave. All of them together have it, and they differ as little as possible, the thicker ones first.
func TestPromise10Joints(t *testing.T) {
	codes := map[int64]int{}
	for _, f := range append(storeyFormats(), validFormats()[:40]...) {
		heights := storeyHeights()
		for courses := int64(1); courses <= 40; courses++ {
			// where just nothing is left, and a little less and a little more, up to the next course
			heights = append(heights, courses*f.Height-1, courses*f.Height, courses*f.Height+1, courses*f.Height+courses-1, courses*f.Height+courses)
		}
		for _, height := range heights {
			for courses := int64(1); courses <= 40; courses++ {
				if height >= 100 && height <= 6000 {
					codes[expectJoints(t, f, height, courses)]++
				}
			}
		}
	}
	expect(t, "both codes occur", values(codes[impl.OK] > 1000, codes[impl.ErrState] > 1000), true, true)
}

// expectJoints checks the joints of some courses, the equal ones and those in whole millimetres.
func expectJoints(t *testing.T, f impl.Format, height, courses int64) int64 {
	t.Helper()
	bed, bedCode := impl.BedOf(f, height, courses)
	joints, code := impl.JointsEvenly(f, height, courses)
	call := fmt.Sprintf("the joints of (%v, %d, %d)", f, height, courses)
	wanted := wantedBed(f, height, courses)
	if wanted.Sign() < 0 {
		expect(t, call, values(bed, bedCode, joints, code), impl.Fraction{}, impl.ErrState, []int64(nil), impl.ErrState)
		return code
	}
	expect(t, call, values(bed, bedCode, code, len(joints)), fraction(wanted), impl.OK, impl.OK, courses)
	together := int64(0)
	for k, joint := range joints {
		together += joint
		if joint < 0 || joint > joints[0] || joint < joints[0]-1 || k > 0 && joint > joints[k-1] {
			t.Errorf("%s: got %v, of which %d is wrong", call, joints, k)
		}
	}
	expect(t, call+" together", values(together+courses*f.Height), height)
	return code
}

func TestJointsEvenly(t *testing.T) {
	known := []struct {
		f               impl.Format
		height, courses int64
		want            []int64
	}{
		{uk, 310, 4, []int64{13, 13, 12, 12}}, {uk, 300, 4, []int64{10, 10, 10, 10}}, {uk, 100, 1, []int64{35}}, {uk, 6000, 1, []int64{5935}}, {tall, 150, 1, []int64{0}}, {tall, 151, 1, []int64{1}},
		// nothing left, a remainder of one millimetre, and of one less than the courses
		{uk, 260, 4, []int64{0, 0, 0, 0}}, {uk, 261, 4, []int64{1, 0, 0, 0}}, {uk, 262, 4, []int64{1, 1, 0, 0}}, {uk, 263, 4, []int64{1, 1, 1, 0}}, {uk, 264, 4, []int64{1, 1, 1, 1}}, {uk, 265, 4, []int64{2, 1, 1, 1}}, {uk, 301, 4, []int64{11, 10, 10, 10}}, {uk, 303, 4, []int64{11, 11, 11, 10}},
		{tall, 6000, 40, slices.Repeat([]int64{0}, 40)}, {flat, 1201, 40, append([]int64{1}, make([]int64, 39)...)}, {flat, 1239, 40, append(slices.Repeat([]int64{1}, 39), 0)}, {flat, 6000, 40, slices.Repeat([]int64{120}, 40)}, {flat, 5999, 40, append(slices.Repeat([]int64{120}, 39), 119)},
	}
	for _, k := range known {
		expect(t, fmt.Sprintf("JointsEvenly(%v, %d, %d)", k.f, k.height, k.courses), values(impl.JointsEvenly(k.f, k.height, k.courses)), k.want, impl.OK)
	}
}

// TestJointErrors: a format that is not valid, then a storey that is none, then bricks that are too high, each beside zero values.
func TestJointErrors(t *testing.T) {
	check := func(f impl.Format, height, courses, code int64) {
		t.Helper()
		call := fmt.Sprintf("(%v, %d, %d)", f, height, courses)
		expect(t, "BedOf"+call, values(impl.BedOf(f, height, courses)), impl.Fraction{}, code)
		expect(t, "JointsEvenly"+call, values(impl.JointsEvenly(f, height, courses)), []int64(nil), code)
	}
	for _, f := range invalidFormats() {
		for _, n := range append([]int64{1, 40, 100, 6000}, extremes...) {
			check(f, n, 4, impl.ErrInvalid)
			check(f, 300, n, impl.ErrInvalid)
			check(f, n, n, impl.ErrInvalid)
		}
	}
	for _, f := range storeyFormats() {
		for _, height := range append(outside(100, 6000), 99, 6001) {
			for _, courses := range append([]int64{1, 4, 40}, outside(1, 40)...) {
				check(f, height, courses, impl.ErrRange)
			}
		}
		for _, courses := range append(outside(1, 40), 0, 41) {
			for _, height := range []int64{100, 300, 6000} {
				check(f, height, courses, impl.ErrRange)
			}
		}
	}
	// less than 0 by one millimetre in all, and by as much as is possible
	check(uk, 259, 4, impl.ErrState)
	check(uk, 129, 2, impl.ErrState)
	check(tall, 149, 1, impl.ErrState)
	check(tall, 100, 1, impl.ErrState)
	check(tall, 5999, 40, impl.ErrState)
	check(tall, 100, 40, impl.ErrState)
	check(flat, 1199, 40, impl.ErrState)
	check(flat, 100, 4, impl.ErrState)
}

func TestMarksOf(t *testing.T) {
	known := []struct {
		height, courses int64
		want            []int64
	}{
		{300, 4, []int64{75, 150, 225, 300}}, {100, 1, []int64{100}}, {6000, 1, []int64{6000}}, {100, 2, []int64{50, 100}}, {6000, 4, []int64{1500, 3000, 4500, 6000}}, {100, 3, []int64{33, 67, 100}}, {200, 3, []int64{67, 133, 200}},
		// exactly between two millimetres
		{101, 2, []int64{51, 101}}, {5999, 2, []int64{3000, 5999}}, {100, 8, []int64{13, 25, 38, 50, 63, 75, 88, 100}}, {102, 4, []int64{26, 51, 77, 102}}, {310, 4, []int64{78, 155, 233, 310}}, {105, 6, []int64{18, 35, 53, 70, 88, 105}},
		{100, 40, []int64{3, 5, 8, 10, 13, 15, 18, 20, 23, 25, 28, 30, 33, 35, 38, 40, 43, 45, 48, 50, 53, 55, 58, 60, 63, 65, 68, 70, 73, 75, 78, 80, 83, 85, 88, 90, 93, 95, 98, 100}},
		// a remainder of one millimetre, and of one less than the courses
		{101, 10, []int64{10, 20, 30, 40, 51, 61, 71, 81, 91, 101}}, {109, 10, []int64{11, 22, 33, 44, 55, 65, 76, 87, 98, 109}}, {301, 4, []int64{75, 151, 226, 301}}, {303, 4, []int64{76, 152, 227, 303}}, {100, 9, []int64{11, 22, 33, 44, 56, 67, 78, 89, 100}},
		{6000, 40, rising(40, 150, 150)},
	}
	for _, k := range known {
		expect(t, fmt.Sprintf("MarksOf(%d, %d)", k.height, k.courses), values(impl.MarksOf(k.height, k.courses)), k.want, impl.OK)
	}
}

// TestPromise10LastMark: for all storeys, the last mark is the height, and each one is the nearest to its place.
func TestPromise10LastMark(t *testing.T) {
	remainders := map[bool]int{}
	for height := int64(100); height <= 6000; height++ {
		for courses := int64(1); courses <= 40; courses++ {
			marks, code := impl.MarksOf(height, courses)
			if code != impl.OK || !slices.Equal(marks, wantedMarks(height, courses)[1:]) || marks[courses-1] != height {
				t.Errorf("MarksOf(%d, %d): got %v %d, want %v 0", height, courses, marks, code, wantedMarks(height, courses)[1:])
			}
			remainders[height%courses == 1 || height%courses == courses-1]++
		}
	}
	expect(t, "remainders at both ends occur", values(remainders[true] > 1000), true)
}

func TestRodText(t *testing.T) {
	known := []struct {
		height, courses int64
		want            string
	}{
		{300, 4, "75 150 225 300"}, {100, 1, "100"}, {6000, 1, "6000"}, {101, 2, "51 101"}, {100, 3, "33 67 100"}, {100, 8, "13 25 38 50 63 75 88 100"},
	}
	for _, k := range known {
		expect(t, fmt.Sprintf("RodText(%d, %d)", k.height, k.courses), values(impl.RodText(k.height, k.courses)), k.want)
	}
	for _, height := range storeyHeights() {
		for courses := int64(1); courses <= 40; courses++ {
			want := strings.Trim(fmt.Sprint(wantedMarks(height, courses)[1:]), "[]")
			expect(t, fmt.Sprintf("RodText(%d, %d)", height, courses), values(impl.RodText(height, courses)), want)
		}
	}
}

// TestRodErrors: a height or a number of courses that no storey has.
func TestRodErrors(t *testing.T) {
	check := func(height, courses int64) {
		t.Helper()
		call := fmt.Sprintf("(%d, %d)", height, courses)
		expect(t, "GaugeOf"+call, values(impl.GaugeOf(height, courses)), impl.Fraction{}, impl.ErrRange)
		expect(t, "MarksOf"+call, values(impl.MarksOf(height, courses)), []int64(nil), impl.ErrRange)
		expect(t, "RodText"+call, values(impl.RodText(height, courses)), "")
		for _, level := range append([]int64{50, 100}, extremes...) {
			expect(t, fmt.Sprintf("NearestMark of %s and %d", call, level), values(impl.NearestMark(height, courses, level)), 0, impl.ErrRange)
		}
		for _, levels := range [][]int64{nil, {}, {1}, {1, 50}, {0}, {2, 1}} {
			expect(t, fmt.Sprintf("LevelsOff of %s and %v", call, levels), values(impl.LevelsOff(height, courses, levels)), []int64(nil), impl.ErrRange)
		}
	}
	for _, height := range append(outside(100, 6000), 99, 6001) {
		for _, courses := range append([]int64{1, 4, 40}, outside(1, 40)...) {
			check(height, courses)
		}
	}
	for _, courses := range append(outside(1, 40), 0, 41) {
		for _, height := range []int64{100, 300, 6000} {
			check(height, courses)
		}
	}
}

func TestNearestMark(t *testing.T) {
	known := []struct{ height, courses, level, want int64 }{
		{300, 4, 110, 1}, {300, 4, 30, 0}, {300, 4, 75, 1}, {300, 4, 150, 2}, {300, 4, 37, 0}, {300, 4, 38, 1}, {300, 4, 112, 1}, {300, 4, 113, 2}, {300, 4, 262, 3}, {300, 4, 263, 4}, {300, 4, 299, 4},
		// level 0 and the height
		{300, 4, 0, 0}, {300, 4, 300, 4}, {100, 1, 0, 0}, {100, 1, 100, 1}, {6000, 40, 0, 0}, {6000, 40, 6000, 40}, {6000, 1, 6000, 1},
		// as far from one mark as from the next one, and a millimetre from there
		{200, 2, 49, 0}, {200, 2, 50, 0}, {200, 2, 51, 1}, {200, 2, 149, 1}, {200, 2, 150, 1}, {200, 2, 151, 2}, {100, 1, 50, 0}, {100, 1, 51, 1}, {6000, 40, 75, 0}, {6000, 40, 76, 1}, {6000, 40, 5925, 39}, {6000, 40, 5926, 40},
		// between marks that are rounded: 33 and 67, 3 and 5, 13 and 25
		{100, 3, 50, 1}, {100, 3, 49, 1}, {100, 3, 51, 2}, {100, 40, 4, 1}, {100, 40, 1, 0}, {100, 40, 2, 1}, {100, 8, 19, 1}, {100, 8, 20, 2}, {100, 8, 6, 0}, {100, 8, 7, 1},
	}
	for _, k := range known {
		expect(t, fmt.Sprintf("NearestMark(%d, %d, %d)", k.height, k.courses, k.level), values(impl.NearestMark(k.height, k.courses, k.level)), k.want, impl.OK)
	}
}

// TestNearestMarkOfAll: each level of many storeys, against a look at all marks.
func TestNearestMarkOfAll(t *testing.T) {
	for _, height := range storeyHeights() {
		for courses := int64(1); courses <= 40; courses++ {
			marks := wantedMarks(height, courses)
			for level := int64(0); level <= height; level += 1 + height/500 {
				want, _ := wantedMarkFor(marks, level)
				if got, code := impl.NearestMark(height, courses, level); got != want || code != impl.OK {
					t.Errorf("NearestMark(%d, %d, %d): got %d %d, want %d 0", height, courses, level, got, code, want)
				}
			}
		}
	}
}

func TestNearestMarkErrors(t *testing.T) {
	for _, height := range []int64{100, 101, 300, 5999, 6000} {
		for _, courses := range []int64{1, 4, 40} {
			for _, level := range append(outside(0, height), -1, height+1) {
				expect(t, fmt.Sprintf("NearestMark(%d, %d, %d)", height, courses, level), values(impl.NearestMark(height, courses, level)), 0, impl.ErrRange)
			}
		}
	}
}

func TestLevelsOff(t *testing.T) {
	known := []struct {
		height, courses int64
		levels, want    []int64
	}{
		{300, 4, []int64{30, 110, 230}, []int64{30, 35, 5}}, {300, 4, []int64{75, 150, 225}, []int64{0, 0, 0}}, {300, 4, []int64{1, 299}, []int64{1, 1}}, {300, 4, []int64{37, 38, 112, 113}, []int64{37, 37, 37, 37}}, {200, 2, []int64{50, 150}, []int64{50, 50}}, {100, 3, []int64{33, 34, 50, 66, 67}, []int64{0, 1, 17, 1, 0}}, {6000, 1, []int64{3000, 3001}, []int64{3000, 2999}},
		{101, 2, []int64{50, 51}, []int64{1, 0}}, {100, 40, []int64{1, 2, 3, 4, 5}, []int64{1, 1, 0, 1, 0}}, {6000, 40, rising(20, 150, 150), make([]int64, 20)}, {6000, 40, rising(20, 5840, 8), []int64{10, 2, 6, 14, 22, 30, 38, 46, 54, 62, 70, 72, 64, 56, 48, 40, 32, 24, 16, 8}},
	}
	for _, k := range known {
		expect(t, fmt.Sprintf("LevelsOff(%d, %d, %v)", k.height, k.courses, k.levels), values(impl.LevelsOff(k.height, k.courses, k.levels)), k.want, impl.OK)
	}
	for _, height := range storeyHeights() {
		for _, levels := range levelsFor(height) {
			for courses := int64(1); courses <= 40; courses++ {
				list, unchanged := guarded(levels, 77)
				want, _ := wantedOffs(height, courses, levels)
				got, code := impl.LevelsOff(height, courses, list)
				if !slices.Equal(got, want) || code != impl.OK {
					t.Errorf("LevelsOff(%d, %d, %v): got %v %d, want %v 0", height, courses, levels, got, code, want)
				}
				unchanged(t, "LevelsOff")
			}
		}
	}
}

func TestLevelsOffErrors(t *testing.T) {
	for _, height := range []int64{100, 101, 300, 6000} {
		for _, levels := range wrongLevelsFor(height) {
			for _, courses := range []int64{0, 1, 4, 40, 41} {
				list, unchanged := guarded(levels, 77)
				expect(t, fmt.Sprintf("LevelsOff(%d, %d, %v)", height, courses, levels), values(impl.LevelsOff(height, courses, list)), []int64(nil), impl.ErrRange)
				unchanged(t, "LevelsOff")
			}
		}
	}
}

func TestCoursesFor(t *testing.T) {
	known := []struct {
		f                         impl.Format
		height, least, most, want int64
	}{
		{uk, 1000, 5, 15, 13}, {uk, 300, 0, 40, 4}, {uk, 300, 10, 10, 4}, {uk, 100, 0, 40, 1}, {uk, 6000, 0, 40, -1}, {uk, 3000, 0, 40, 40}, {uk, 3000, 10, 10, 40}, {tall, 6000, 0, 40, 35}, {tall, 6000, 0, 0, 40}, {tall, 6000, 40, 40, -1},
		// just fitting at the least joint and at the greatest one, and missing it by a millimetre
		{uk, 139, 5, 6, -1}, {uk, 140, 5, 6, 2}, {uk, 141, 5, 6, 2}, {uk, 142, 5, 6, 2}, {uk, 143, 5, 6, -1}, {uk, 209, 5, 6, -1}, {uk, 210, 5, 6, 3}, {uk, 213, 5, 6, 3}, {uk, 214, 5, 6, -1}, {uk, 699, 5, 5, -1}, {uk, 700, 5, 5, 10}, {uk, 701, 5, 5, -1},
		{uk, 130, 5, 15, -1}, {uk, 160, 15, 15, 2}, {uk, 161, 5, 15, -1}, {uk, 160, 5, 15, 2}, {uk, 105, 0, 40, 1}, {uk, 106, 0, 40, -1}, {uk, 129, 0, 40, -1}, {uk, 130, 0, 40, 2}, {tall, 149, 0, 40, -1}, {tall, 150, 0, 40, 1}, {tall, 190, 0, 40, 1}, {tall, 191, 0, 40, -1}, {tall, 190, 40, 40, 1}, {tall, 189, 40, 40, -1},
		// not more than MaxCourses, although more would fit
		{flat, 1199, 0, 0, -1}, {flat, 1200, 0, 0, 40}, {flat, 1201, 0, 0, -1}, {flat, 1230, 0, 0, -1}, {flat, 2800, 0, 40, 40}, {flat, 2801, 0, 40, -1}, {flat, 6000, 0, 40, -1}, {flat, 1200, 0, 40, 40}, {flat, 1201, 0, 40, 40},
		// joints of 30 and of 10, beside 20, are equally good, and the least number of courses is told, if it fits
		{ties, 240, 0, 40, 3}, {ties, 240, 10, 30, 3}, {ties, 240, 10, 29, 4}, {ties, 240, 0, 29, 4}, {ties, 240, 11, 30, 3}, {ties, 240, 11, 29, -1}, {impl.Format{Length: 240, Width: 115, Height: 30, Joint: 15}, 200, 0, 40, 4},
		// a millimetre more in all: 31/3 and 39/4 are compared as they are, neither rounded nor for all joints together
		{ties, 238, 0, 40, 3}, {ties, 239, 0, 40, 3}, {ties, 241, 0, 40, 4}, {ties, 242, 0, 40, 4},
		// joints of 100/7 for 7 courses, and of 5 for 8 courses
		{impl.Format{Length: 240, Width: 115, Height: 60, Joint: 9}, 520, 0, 40, 8}, {impl.Format{Length: 240, Width: 115, Height: 60, Joint: 10}, 520, 0, 40, 7}, {impl.Format{Length: 240, Width: 115, Height: 60, Joint: 11}, 520, 0, 40, 7},
	}
	for _, k := range known {
		want, code := k.want, int64(impl.OK)
		if want < 0 {
			want, code = 0, impl.ErrNotFound
		}
		expect(t, fmt.Sprintf("CoursesFor(%v, %d, %d, %d)", k.f, k.height, k.least, k.most), values(impl.CoursesFor(k.f, k.height, k.least, k.most)), want, code)
	}
}

// bedLimits are limits of joints: the widest ones, single ones, and some between.
func bedLimits() [][2]int64 {
	return [][2]int64{{0, 40}, {0, 0}, {40, 40}, {5, 15}, {10, 10}, {0, 20}, {9, 10}, {11, 40}, {0, 1}, {39, 40}}
}

// TestCoursesForOfAll: many formats, heights and limits, against a look at all numbers of courses with fractions of any size.
func TestCoursesForOfAll(t *testing.T) {
	counts := map[int]int{}
	for _, f := range storeyFormats() {
		for _, height := range storeyHeights() {
			for _, x := range bedLimits() {
				fits := wantedFits(f, height, x[0], x[1])
				counts[min(len(fits), 2)]++
				want, code := firstBest(fits, offJoint(f, height))
				expect(t, fmt.Sprintf("CoursesFor(%v, %d, %d, %d)", f, height, x[0], x[1]), values(impl.CoursesFor(f, height, x[0], x[1])), want, code)
			}
		}
	}
	expect(t, "none, one and several fit", values(counts[0] > 100, counts[1] > 100, counts[2] > 100), true, true, true)
}

// TestEqualJoints: where two numbers of courses are equally good, the least one is told.
func TestEqualJoints(t *testing.T) {
	count := 0
	for height := int64(100); height <= 1200; height++ {
		for _, f := range []impl.Format{ties, {Length: 240, Width: 115, Height: 30, Joint: 15}, {Length: 240, Width: 115, Height: 40, Joint: 20}} {
			fits, off := wantedFits(f, height, 0, 40), offJoint(f, height)
			want, code := firstBest(fits, off)
			for _, n := range fits {
				if n != want && off(n).Cmp(off(want)) == 0 {
					count++
				}
			}
			expect(t, fmt.Sprintf("CoursesFor(%v, %d, 0, 40)", f, height), values(impl.CoursesFor(f, height, 0, 40)), want, code)
		}
	}
	expect(t, "there are several such heights", values(count > 3), true)
}

func TestBestGauge(t *testing.T) {
	known := []struct {
		f                   impl.Format
		height, least, most int64
		levels              []int64
		want                int64
	}{
		{uk, 1000, 5, 15, []int64{500}, 14}, {uk, 1000, 5, 15, nil, 13}, {uk, 1000, 0, 40, nil, 10}, {uk, 300, 10, 10, []int64{1, 299}, 4},
		// several with the same sum, of 0 or more, and the least one of them is told
		{uk, 1000, 0, 40, []int64{500}, 10}, {uk, 1000, 0, 34, []int64{500}, 12}, {uk, 1000, 5, 15, []int64{1}, 13}, {uk, 1000, 0, 40, []int64{1, 999}, 10}, {uk, 1000, 0, 40, []int64{250, 500, 750}, 12}, {uk, 1000, 0, 40, []int64{143, 286, 429}, 14},
		// the sum counts, not the worst level, which is nearest with 15 courses; nor do the joints of the format
		{uk, 1000, 0, 40, []int64{250, 450}, 11}, {uk, 1000, 0, 40, []int64{550, 750}, 11}, {uk, 1000, 0, 40, []int64{100}, 10}, {uk, 1000, 0, 25, []int64{91}, 12}, {uk, 1000, 0, 26, []int64{91}, 11}, {uk, 1000, 0, 34, []int64{100}, 11}, {uk, 3000, 0, 40, []int64{75, 3 * 75, 1500, 2925}, 40},
		// just one fits, and none
		{uk, 140, 5, 6, []int64{70}, 2}, {uk, 139, 5, 6, []int64{70}, -1}, {uk, 142, 5, 6, nil, 2}, {uk, 143, 5, 6, nil, -1}, {uk, 130, 5, 15, nil, -1}, {flat, 6000, 0, 40, rising(20, 1, 1), -1}, {flat, 1200, 0, 0, rising(20, 30, 30), 40}, {tall, 6000, 0, 0, rising(20, 5980, 1), 40},
	}
	for _, k := range known {
		want, code := k.want, int64(impl.OK)
		if want < 0 {
			want, code = 0, impl.ErrNotFound
		}
		expect(t, fmt.Sprintf("BestGauge(%v, %d, %d, %d, %v)", k.f, k.height, k.least, k.most, k.levels), values(impl.BestGauge(k.f, k.height, k.least, k.most, k.levels)), want, code)
	}
}

// TestBestGaugeOfAll: many formats, heights, limits and levels, against a look at all numbers of courses.
func TestBestGaugeOfAll(t *testing.T) {
	codes := map[int64]int{}
	for k, f := range storeyFormats() {
		for m, height := range storeyHeights() {
			x := bedLimits()[(k+m)%3]
			fits := wantedFits(f, height, x[0], x[1])
			for _, levels := range levelsFor(height) {
				want, code := firstBest(fits, offLevels(height, levels))
				list, unchanged := guarded(levels, 77)
				expect(t, fmt.Sprintf("BestGauge(%v, %d, %d, %d, %v)", f, height, x[0], x[1], levels), values(impl.BestGauge(f, height, x[0], x[1], list)), want, code)
				unchanged(t, "BestGauge")
				codes[code]++
			}
		}
	}
	expect(t, "both codes occur", values(codes[impl.OK] > 1000, codes[impl.ErrNotFound] > 1000), true, true)
}

// TestBestErrors: a format that is not valid, then anything out of range, and only then that nothing fits, each beside zero values.
func TestBestErrors(t *testing.T) {
	check := func(f impl.Format, height, least, most int64, levels []int64, code int64) {
		t.Helper()
		list, unchanged := guarded(levels, 77)
		if len(levels) == 0 {
			expect(t, fmt.Sprintf("CoursesFor(%v, %d, %d, %d)", f, height, least, most), values(impl.CoursesFor(f, height, least, most)), 0, code)
		}
		expect(t, fmt.Sprintf("BestGauge(%v, %d, %d, %d, %v)", f, height, least, most, levels), values(impl.BestGauge(f, height, least, most, list)), 0, code)
		unchanged(t, "BestGauge")
	}
	for _, f := range invalidFormats() {
		for _, levels := range [][]int64{nil, {50}, {0}, {50, 50}} {
			check(f, 300, 0, 40, levels, impl.ErrInvalid)
			check(f, 99, 0, 40, levels, impl.ErrInvalid)
			check(f, 300, 40, 0, levels, impl.ErrInvalid)
			check(f, extremes[0], extremes[8], extremes[0], levels, impl.ErrInvalid)
		}
	}
	for _, f := range storeyFormats() {
		for _, height := range append(outside(100, 6000), 99, 6001) {
			for _, levels := range [][]int64{nil, {}, {1}, {50}, {50, 50}} {
				check(f, height, 0, 40, levels, impl.ErrRange)
				check(f, height, 0, 0, levels, impl.ErrRange)
			}
		}
		for _, x := range wrongBeds() {
			for _, height := range []int64{99, 100, 300, 6000} {
				check(f, height, x[0], x[1], nil, impl.ErrRange)
				check(f, height, x[0], x[1], []int64{50}, impl.ErrRange)
			}
		}
		for _, height := range []int64{100, 300, 6000} {
			for _, levels := range wrongLevelsFor(height) {
				check(f, height, 0, 40, levels, impl.ErrRange)
				check(f, height, 0, 0, levels, impl.ErrRange)
			}
		}
	}
	check(uk, 130, 5, 15, nil, impl.ErrNotFound)
	check(uk, 100, 40, 40, []int64{1, 99}, impl.ErrNotFound)
	check(flat, 6000, 0, 40, []int64{5999}, impl.ErrNotFound)
	check(tall, 100, 0, 40, nil, impl.ErrNotFound)
}

// TestBedLimitsAtEachEdge moves each limit on its own: all of these have 4 courses, if they are limits and let joints of 10 millimetres be.
func TestBedLimitsAtEachEdge(t *testing.T) {
	for least := int64(-5); least <= 45; least++ {
		for most := int64(-5); most <= 45; most++ {
			want, code := int64(0), int64(impl.ErrNotFound)
			switch {
			case least < 0 || least > most || most > 40:
				code = impl.ErrRange
			case least <= 10 && most >= 10:
				want, code = 4, impl.OK
			case most >= 35 && least <= 35:
				want, code = 3, impl.OK
			}
			expect(t, fmt.Sprintf("CoursesFor with %d to %d", least, most), values(impl.CoursesFor(uk, 300, least, most)), want, code)
		}
	}
}

func TestStepsBetween(t *testing.T) {
	known := []struct {
		f      impl.Format
		height int64
		levels []int64
		want   []int64
	}{
		{uk, 1000, []int64{300, 700}, []int64{4, 5, 4}}, {uk, 300, []int64{75, 150, 225}, []int64{1, 1, 1, 1}}, {uk, 300, []int64{150}, []int64{2, 2}}, {tall, 6000, rising(20, 170, 170), append(slices.Repeat([]int64{1}, 20), 15)},
		// the height without levels
		{uk, 1000, nil, []int64{13}}, {uk, 1000, []int64{}, []int64{13}}, {uk, 100, nil, []int64{1}}, {uk, 6000, nil, []int64{80}}, {flat, 6000, nil, []int64{200}}, {flat, 100, nil, []int64{3}}, {tall, 100, nil, []int64{1}}, {tall, 6000, nil, []int64{35}},
		// half as long as a course, or as one and a half, a millimetre more and a millimetre less
		{even, 120, nil, []int64{2}}, {even, 119, nil, []int64{1}}, {even, 121, nil, []int64{2}}, {even, 200, nil, []int64{3}}, {even, 199, nil, []int64{2}}, {even, 201, nil, []int64{3}},
		{even, 400, []int64{40}, []int64{1, 5}}, {even, 400, []int64{41}, []int64{1, 4}}, {even, 400, []int64{360}, []int64{5, 1}}, {even, 400, []int64{359}, []int64{4, 1}}, {even, 400, []int64{120, 160, 280}, []int64{2, 1, 2, 2}}, {even, 400, []int64{119, 159, 279}, []int64{1, 1, 2, 2}}, {even, 400, []int64{121, 240}, []int64{2, 1, 2}},
		{uk, 300, []int64{38, 76, 188, 263}, []int64{1, 1, 1, 1, 0}}, {uk, 301, []int64{38, 76, 188, 263}, []int64{1, 1, 1, 1, 1}}, {uk, 301, []int64{38, 76, 189, 263}, []int64{1, 1, 2, 1, 1}},
	}
	for _, k := range known {
		want, code := k.want, int64(impl.OK)
		if slices.Contains(want, 0) {
			want, code = nil, impl.ErrState
		}
		expect(t, fmt.Sprintf("StepsBetween(%v, %d, %v)", k.f, k.height, k.levels), values(impl.StepsBetween(k.f, k.height, k.levels)), want, code)
	}
}

// TestStepsBetweenOfAll: many formats, heights and levels, and each level alone.
func TestStepsBetweenOfAll(t *testing.T) {
	codes := map[int64]int{}
	check := func(f impl.Format, height int64, levels []int64) {
		t.Helper()
		want, code, before := []int64(nil), int64(impl.OK), int64(0)
		for _, level := range append(slices.Clone(levels), height) {
			want = append(want, wantedNearest(level-before, f.Height+f.Joint))
			before = level
		}
		if slices.Contains(want, 0) {
			want, code = nil, impl.ErrState
		}
		list, unchanged := guarded(levels, 77)
		expect(t, fmt.Sprintf("StepsBetween(%v, %d, %v)", f, height, levels), values(impl.StepsBetween(f, height, list)), want, code)
		unchanged(t, "StepsBetween")
		codes[code]++
	}
	for _, f := range storeyFormats() {
		for _, height := range storeyHeights() {
			for _, levels := range levelsFor(height) {
				check(f, height, levels)
			}
		}
		for level := int64(1); level < 500; level++ {
			check(f, 500, []int64{level})
			check(f, 6000, []int64{level, 700, 6000 - level})
		}
	}
	expect(t, "both codes occur", values(codes[impl.OK] > 1000, codes[impl.ErrState] > 1000), true, true)
}

// TestStepErrors: a format that is not valid, then levels that are none, and then parts without a step, each beside zero values.
func TestStepErrors(t *testing.T) {
	check := func(f impl.Format, height int64, levels []int64, code int64) {
		t.Helper()
		list, unchanged := guarded(levels, 77)
		expect(t, fmt.Sprintf("StepsBetween(%v, %d, %v)", f, height, levels), values(impl.StepsBetween(f, height, list)), []int64(nil), code)
		unchanged(t, "StepsBetween")
	}
	for _, f := range invalidFormats() {
		for _, height := range append([]int64{99, 300, 6001}, extremes...) {
			for _, levels := range [][]int64{nil, {1}, {150}, {0}, {50, 50}} {
				check(f, height, levels, impl.ErrInvalid)
			}
		}
	}
	for _, f := range storeyFormats() {
		for _, height := range append(outside(100, 6000), 99, 6001) {
			for _, levels := range [][]int64{nil, {}, {1}, {50}, {50, 50}} {
				check(f, height, levels, impl.ErrRange)
			}
		}
		for _, height := range []int64{100, 300, 6000} {
			for _, levels := range wrongLevelsFor(height) {
				check(f, height, levels, impl.ErrRange)
			}
		}
	}
	// the first part, one between others, and the last one are too short
	check(even, 400, []int64{39}, impl.ErrState)
	check(even, 400, []int64{1}, impl.ErrState)
	check(even, 400, []int64{100, 139}, impl.ErrState)
	check(even, 400, []int64{100, 101, 200}, impl.ErrState)
	check(even, 400, []int64{361}, impl.ErrState)
	check(even, 400, []int64{399}, impl.ErrState)
	check(even, 400, []int64{39, 361}, impl.ErrState)
	check(uk, 400, []int64{37}, impl.ErrState)
	check(uk, 1000, []int64{30}, impl.ErrState)
	check(tall, 6000, rising(20, 1, 1), impl.ErrState)
}

// TestPromise1Gauges: every function of chapter 10 returns for all arguments, modifies none, and keeps none of its results.
func TestPromise1Gauges(t *testing.T) {
	numbers := append([]int64{5, 39, 40, 41, 99, 100, 300, 5999, 6000, 6001}, extremes...)
	lists := append(levelsFor(300), wrongLevelsFor(300)...)
	for _, height := range numbers {
		for _, n := range numbers {
			expect(t, "GaugeOf", values(impl.GaugeOf(height, n)), values(impl.GaugeOf(height, n))...)
			expect(t, "RodText", values(impl.RodText(height, n)), values(impl.RodText(height, n))...)
			again(t, "MarksOf", 77, func() ([]int64, int64) { return impl.MarksOf(height, n) })
			for _, f := range []impl.Format{uk, tall, {}, {Length: height, Width: n, Height: height, Joint: n}} {
				expect(t, "BedOf", values(impl.BedOf(f, height, n)), values(impl.BedOf(f, height, n))...)
				again(t, "JointsEvenly", 77, func() ([]int64, int64) { return impl.JointsEvenly(f, height, n) })
				for _, m := range numbers {
					expect(t, "CoursesFor", values(impl.CoursesFor(f, height, n, m)), values(impl.CoursesFor(f, height, n, m))...)
					expect(t, "BestGauge", values(impl.BestGauge(f, height, n, m, []int64{50})), values(impl.BestGauge(f, height, n, m, []int64{50}))...)
				}
			}
			for _, m := range numbers {
				expect(t, "NearestMark", values(impl.NearestMark(height, n, m)), values(impl.NearestMark(height, n, m))...)
			}
		}
		for _, levels := range lists {
			list, unchanged := guarded(levels, 77)
			expect(t, "ValidLevels", values(impl.ValidLevels(list, height)), impl.ValidLevels(list, height))
			for _, n := range []int64{1, 4, 40, 41, extremes[0]} {
				again(t, "LevelsOff", 77, func() ([]int64, int64) { return impl.LevelsOff(height, n, list) })
				expect(t, "BestGauge", values(impl.BestGauge(uk, height, 0, n, list)), values(impl.BestGauge(uk, height, 0, n, list))...)
			}
			again(t, "StepsBetween", 77, func() ([]int64, int64) { return impl.StepsBetween(uk, height, list) })
			unchanged(t, "all functions of chapter 10")
		}
	}
}
