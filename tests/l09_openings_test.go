package tests

import (
	"fmt"
	"slices"
	"strings"
	"testing"

	"loop.example/g01042/impl"
)

// open returns an opening.
func open(from, to, low, high int64) impl.Opening {
	return impl.Opening{From: from, To: to, Low: low, High: high}
}

// frontOf returns a front, which need not be valid.
func frontOf(length, courses int64, openings ...impl.Opening) impl.Front {
	return impl.Front{Length: length, Courses: courses, Openings: openings}
}

// windows returns openings of one quarter with one quarter between them, all in the course 0.
func windows(n int) []impl.Opening {
	var list []impl.Opening
	for k := range int64(n) {
		list = append(list, open(2*k+1, 2*k+2, 0, 1))
	}
	return list
}

// stacked returns openings of one course above one another, with no course between them.
func stacked(n int) []impl.Opening {
	var list []impl.Opening
	for k := range int64(n) {
		list = append(list, open(1, 3, k, k+1))
	}
	return list
}

// knownFronts are fronts with the parts of their courses, from below.
var knownFronts = []struct {
	front impl.Front
	parts string
}{
	{frontOf(8, 2, open(2, 6, 0, 1)), "[[{0 2} {6 8}] [{0 8}]]"},
	// no openings, in the smallest walls and in the greatest ones
	{frontOf(1, 1), "[[{0 1}]]"}, {frontOf(200, 1), "[[{0 200}]]"}, {frontOf(1, 3), "[[{0 1}] [{0 1}] [{0 1}]]"}, {frontOf(5, 2), "[[{0 5}] [{0 5}]]"},
	// an opening that begins at 0, one that ends at Length, and one that does both
	{frontOf(8, 1, open(0, 3, 0, 1)), "[[{3 8}]]"}, {frontOf(8, 1, open(5, 8, 0, 1)), "[[{0 5}]]"}, {frontOf(8, 2, open(0, 8, 0, 1)), "[[] [{0 8}]]"}, {frontOf(8, 2, open(0, 8, 1, 2)), "[[{0 8}] []]"}, {frontOf(8, 3, open(0, 3, 0, 1), open(5, 8, 1, 3)), "[[{3 8}] [{0 5}] [{0 5}]]"},
	{frontOf(8, 1, open(7, 8, 0, 1)), "[[{0 7}]]"}, {frontOf(8, 1, open(0, 1, 0, 1)), "[[{1 8}]]"}, {frontOf(8, 1, open(1, 8, 0, 1)), "[[{0 1}]]"}, {frontOf(8, 1, open(0, 7, 0, 1)), "[[{7 8}]]"},
	// no parts at all
	{frontOf(1, 1, open(0, 1, 0, 1)), "[[]]"}, {frontOf(8, 2, open(0, 8, 0, 2)), "[[] []]"}, {frontOf(8, 2, open(0, 3, 0, 2), open(3, 8, 0, 2)), "[[] []]"}, {frontOf(4, 2, open(0, 1, 0, 1), open(0, 3, 1, 2), open(1, 4, 0, 1), open(3, 4, 1, 2)), "[[] []]"},
	// an opening from the course 0, one up to Courses, one within, and one through all courses
	{frontOf(6, 3, open(2, 3, 0, 2)), "[[{0 2} {3 6}] [{0 2} {3 6}] [{0 6}]]"}, {frontOf(6, 3, open(2, 3, 1, 3)), "[[{0 6}] [{0 2} {3 6}] [{0 2} {3 6}]]"}, {frontOf(6, 3, open(2, 3, 1, 2)), "[[{0 6}] [{0 2} {3 6}] [{0 6}]]"}, {frontOf(6, 3, open(2, 3, 0, 3)), "[[{0 2} {3 6}] [{0 2} {3 6}] [{0 2} {3 6}]]"},
	// openings beside one another, above one another, and at a corner of one another
	{frontOf(9, 1, open(2, 4, 0, 1), open(4, 6, 0, 1)), "[[{0 2} {6 9}]]"}, {frontOf(9, 1, open(2, 4, 0, 1), open(5, 6, 0, 1)), "[[{0 2} {4 5} {6 9}]]"}, {frontOf(9, 2, open(2, 4, 0, 1), open(2, 4, 1, 2)), "[[{0 2} {4 9}] [{0 2} {4 9}]]"}, {frontOf(9, 2, open(2, 4, 0, 1), open(4, 6, 1, 2)), "[[{0 2} {4 9}] [{0 4} {6 9}]]"}, {frontOf(9, 2, open(2, 4, 1, 2), open(4, 6, 0, 1)), "[[{0 4} {6 9}] [{0 2} {4 9}]]"},
	{frontOf(9, 2, open(2, 4, 1, 2), open(3, 9, 0, 1)), "[[{0 3}] [{0 2} {4 9}]]"}, {frontOf(9, 2, open(0, 9, 0, 1), open(8, 9, 1, 2)), "[[] [{0 8}]]"},
	// MaxOpenings openings, beside one another and above one another
	{frontOf(17, 1, windows(8)...), "[[{0 1} {2 3} {4 5} {6 7} {8 9} {10 11} {12 13} {14 15} {16 17}]]"}, {frontOf(4, 8, stacked(8)...), "[[{0 1} {3 4}] [{0 1} {3 4}] [{0 1} {3 4}] [{0 1} {3 4}] [{0 1} {3 4}] [{0 1} {3 4}] [{0 1} {3 4}] [{0 1} {3 4}]]"},
	{frontOf(8, 1, open(0, 1, 0, 1), open(1, 2, 0, 1), open(2, 3, 0, 1), open(3, 4, 0, 1), open(4, 5, 0, 1), open(5, 6, 0, 1), open(6, 7, 0, 1), open(7, 8, 0, 1)), "[[]]"},
}

// greatFronts have MaxQuarters quarters, MaxCourses courses, or both.
func greatFronts() []impl.Front {
	return []impl.Front{
		frontOf(200, 40), frontOf(200, 40, open(0, 200, 0, 40)), frontOf(200, 40, open(199, 200, 39, 40)), frontOf(200, 40, open(0, 1, 0, 1)), frontOf(1, 40, open(0, 1, 39, 40)), frontOf(200, 1, open(199, 200, 0, 1)), frontOf(200, 40, windows(8)...), frontOf(200, 40, stacked(8)...),
		frontOf(200, 40, open(0, 60, 0, 20), open(0, 10, 30, 40), open(60, 80, 0, 25), open(70, 200, 39, 40), open(100, 121, 10, 30), open(121, 160, 8, 31), open(170, 200, 0, 12), open(180, 200, 12, 39)),
	}
}

// mixedFronts are fronts with all numbers of openings, another one for each seed.
func mixedFronts() []impl.Front {
	var list []impl.Front
	for seed := int64(1); seed <= 400; seed++ {
		state := seed
		next := func(n int64) int64 {
			state = (state*1103515245 + 12345) % (1 << 31)
			return state / 65536 % n
		}
		f := frontOf(1+next([]int64{6, 12, 40, 200}[seed%4]), 1+next([]int64{3, 6, 12, 40}[seed/4%4]))
		for range next(60) {
			o := open(next(f.Length), 0, next(f.Courses), 0)
			o.To = min(o.From+1+next(1+f.Length/4), f.Length)
			o.High = min(o.Low+1+next(1+f.Courses/2), f.Courses)
			more := frontOf(f.Length, f.Courses, append(slices.Clone(f.Openings), o)...)
			if grid, ok := gridOf(more); ok && len(f.Openings) < 8 {
				f.Openings = openingsIn(grid)
			}
		}
		list = append(list, f)
	}
	return list
}

// validFronts are fronts with all numbers of openings.
func validFronts() []impl.Front {
	list := append(greatFronts(), mixedFronts()...)
	for _, known := range knownFronts {
		list = append(list, known.front)
	}
	return list
}

// invalidFronts have one fault each.
func invalidFronts() []impl.Front {
	list := []impl.Front{
		{}, frontOf(0, 1), frontOf(201, 1), frontOf(1, 0), frontOf(1, 41), frontOf(-8, 2), frontOf(8, -2), frontOf(0, 2, open(0, 0, 0, 1)), frontOf(201, 2, open(2, 6, 0, 1)), frontOf(8, 41, open(2, 6, 0, 1)),
		// one more than MaxOpenings, and many more
		frontOf(200, 40, windows(9)...), frontOf(200, 40, stacked(9)...), frontOf(200, 40, windows(99)...), frontOf(8, 2, slices.Repeat([]impl.Opening{open(2, 6, 0, 1)}, 100000)...), frontOf(8, 2, make([]impl.Opening, 9)...),
		// two equal openings, beside one another and apart
		frontOf(8, 2, open(2, 6, 0, 1), open(2, 6, 0, 1)), frontOf(8, 2, open(0, 2, 0, 1), open(2, 6, 0, 1), open(2, 6, 0, 1)), frontOf(8, 2, open(2, 3, 0, 1), open(3, 6, 0, 1), open(2, 3, 0, 1)),
		// openings that have just one quarter in common, with each of their corners, and those that have more
		frontOf(9, 3, open(2, 5, 0, 2), open(4, 6, 1, 3)), frontOf(9, 3, open(2, 5, 1, 3), open(4, 6, 0, 2)), frontOf(9, 3, open(0, 9, 0, 3), open(8, 9, 2, 3)), frontOf(9, 3, open(0, 9, 0, 3), open(4, 5, 1, 2)), frontOf(9, 3, open(0, 9, 1, 2), open(4, 5, 0, 3)), frontOf(9, 3, open(2, 4, 0, 2), open(2, 5, 1, 2)), frontOf(9, 3, open(2, 4, 0, 1), open(3, 4, 0, 1)), frontOf(9, 3, open(2, 4, 0, 1), open(2, 3, 0, 1)),
		frontOf(9, 3, open(0, 3, 0, 1), open(3, 4, 0, 1), open(5, 9, 0, 3), open(8, 9, 0, 1)), frontOf(9, 3, open(0, 3, 0, 2), open(1, 2, 2, 3), open(2, 9, 1, 2)),
		// openings out of order by From, and by Low beside an equal From
		frontOf(9, 3, open(4, 6, 0, 1), open(2, 4, 0, 1)), frontOf(9, 3, open(4, 6, 0, 1), open(3, 4, 2, 3)), frontOf(9, 3, open(2, 4, 0, 1), open(6, 8, 0, 1), open(4, 6, 0, 1)), frontOf(9, 3, open(2, 4, 1, 2), open(2, 4, 0, 1)), frontOf(9, 3, open(2, 4, 2, 3), open(2, 9, 0, 1)), frontOf(9, 3, open(2, 4, 0, 1), open(2, 4, 2, 3), open(2, 4, 1, 2)),
	}
	// an opening that is none of the front, alone, before and behind another one
	for _, o := range wrongOpenings(9, 3) {
		list = append(list, frontOf(9, 3, o), frontOf(9, 3, o, open(4, 5, 1, 2)), frontOf(9, 3, open(4, 5, 1, 2), o), frontOf(9, 3, open(4, 5, 1, 2), open(6, 7, 1, 2), o))
	}
	for _, n := range extremes {
		if n != 1 {
			list = append(list, frontOf(n, 2), frontOf(8, n), frontOf(n, n), frontOf(n, 2, open(2, 6, 0, 1)), frontOf(8, n, open(2, 6, 0, 1)))
		}
	}
	return list
}

// wrongOpenings are no openings of a front of this size.
func wrongOpenings(length, courses int64) []impl.Opening {
	list := []impl.Opening{
		{}, open(-1, length, 0, courses), open(-1, 1, 0, 1), open(-1, 0, 0, 1), open(0, length+1, 0, courses), open(length-1, length+1, 0, 1), open(length, length+1, 0, 1), open(0, length, -1, courses), open(0, 1, -1, 1), open(0, 1, -1, 0), open(0, length, 0, courses+1), open(0, 1, courses-1, courses+1), open(0, 1, courses, courses+1),
		// From equal to To or greater, and the like for Low and High
		open(0, 0, 0, 1), open(length, length, 0, 1), open(1, 0, 0, 1), open(length, 0, 0, courses), open(0, 1, 0, 0), open(0, 1, courses, courses), open(0, 1, 1, 0), open(0, length, courses, 0), open(length, length-1, 0, 1), open(0, 1, courses, courses-1),
	}
	for k := range length + 1 {
		list = append(list, open(k, k, 0, 1), open(k, k, 0, courses), open(k, k-1, 0, 1))
	}
	for k := range courses + 1 {
		list = append(list, open(0, 1, k, k), open(0, length, k, k), open(0, 1, k, k-1))
	}
	for _, n := range extremes {
		if n != 0 {
			list = append(list, open(n, 0, 0, 1), open(0, 1, n, 0), open(n, n, 0, 1), open(n, n+1, courses, courses+1), open(n, n, n, n))
		}
		if n != 0 && n != 1 {
			list = append(list, open(n, 1, 0, 1), open(0, n, 0, 1), open(0, 1, n, 1), open(0, 1, 0, n))
		}
	}
	return list
}

// guardedFront returns a front with unused capacity behind its openings, and a function that checks that all is as it was.
func guardedFront(f impl.Front) (impl.Front, func(t *testing.T, call string)) {
	openings, unchanged := guarded(f.Openings, open(77, 78, 7, 8))
	return frontOf(f.Length, f.Courses, openings...), unchanged
}

// gridOf returns for each course and each of its quarters the index of its opening, -1 if it is solid.
// It returns false if the front has no such grid: if an opening has no place, or two of them have a quarter in common.
func gridOf(f impl.Front) ([][]int, bool) {
	if f.Length < 1 || f.Length > 200 || f.Courses < 1 || f.Courses > 40 || len(f.Openings) > 1000 {
		return nil, false
	}
	grid := make([][]int, f.Courses)
	for course := range grid {
		grid[course] = slices.Repeat([]int{-1}, int(f.Length))
	}
	for k, o := range f.Openings {
		if o.From < 0 || o.To > f.Length || o.Low < 0 || o.High > f.Courses || o.From >= o.To || o.Low >= o.High {
			return nil, false
		}
		for course := o.Low; course < o.High; course++ {
			for place := o.From; place < o.To; place++ {
				if grid[course][place] >= 0 {
					return nil, false
				}
				grid[course][place] = k
			}
		}
	}
	return grid, true
}

// openingsIn returns the openings of a grid in the order in which one meets them, place by place and in each place from below.
func openingsIn(grid [][]int) []impl.Opening {
	var list []impl.Opening
	index := map[int]int{-1: -1}
	for place := range grid[0] {
		for course := range grid {
			label := grid[course][place]
			k, isKnown := index[label]
			if !isKnown {
				k = len(list)
				index[label] = k
				list = append(list, open(int64(place), 0, int64(course), 0))
			}
			if k >= 0 {
				list[k].To, list[k].High = max(list[k].To, int64(place)+1), max(list[k].High, int64(course)+1)
			}
		}
	}
	return list
}

// wantedFront reports whether a front is valid.
func wantedFront(f impl.Front) bool {
	grid, ok := gridOf(f)
	return ok && len(f.Openings) <= 8 && slices.Equal(openingsIn(grid), f.Openings)
}

// wantedParts returns the parts of a course of a grid.
func wantedParts(course []int) []impl.Part {
	var parts []impl.Part
	for place, label := range course {
		switch {
		case label >= 0:
		case place > 0 && course[place-1] < 0:
			parts[len(parts)-1].To++
		default:
			parts = append(parts, impl.Part{From: int64(place), To: int64(place) + 1})
		}
	}
	return parts
}

// wantedLintel returns the quarters above an opening that its lintel takes; they may lie beyond the wall.
func wantedLintel(o impl.Opening, bearing int64) map[int64]bool {
	quarters := map[int64]bool{}
	for place := o.From; place < o.To; place++ {
		for away := -bearing; away <= bearing; away++ {
			quarters[place+away] = true
		}
	}
	return quarters
}

// wantedLintelClash returns the first two openings whose lintels meet; nil if there are none.
func wantedLintelClash(f impl.Front, bearing int64) []int64 {
	type quarter struct{ place, course int64 }
	takenBy := map[quarter][]int{}
	for k, o := range f.Openings {
		for place := range wantedLintel(o, bearing) {
			takenBy[quarter{place, o.High}] = append(takenBy[quarter{place, o.High}], k)
		}
	}
	var first []int64
	for _, list := range takenBy {
		for k, a := range list {
			for _, b := range list[k+1:] {
				if both := []int64{int64(a), int64(b)}; first == nil || slices.Compare(both, first) < 0 {
					first = both
				}
			}
		}
	}
	return first
}

// listText returns a text of a list, the same one for a nil list and for an empty one.
func listText[T any](list []T) string { return fmt.Sprint(list) }

// outline returns a text of a front, which is short even if it has very many openings.
func outline(f impl.Front) string {
	if len(f.Openings) > 100 {
		return fmt.Sprintf("%d %d and %d openings", f.Length, f.Courses, len(f.Openings))
	}
	return fmt.Sprint(f)
}

// expectFront checks a front that is returned; a nil and an empty list of openings are the same.
func expectFront(t *testing.T, call string, got impl.Front, code int64, want impl.Front, wantCode int64) {
	t.Helper()
	if fmt.Sprint(got) != fmt.Sprint(want) || code != wantCode {
		t.Errorf("%s: got %v %d, want %v %d", call, got, code, want, wantCode)
	}
}

// expectParts checks the functions that tell of parts of courses, given the parts of all courses from below.
func expectParts(t *testing.T, f impl.Front, parts [][]impl.Part) {
	t.Helper()
	narrowest, solid, narrowestCode := int64(0), int64(0), int64(impl.ErrNotFound)
	var lines []string
	for course, wanted := range parts {
		got, code := impl.PartsOf(f, int64(course))
		expect(t, fmt.Sprintf("PartsOf(%v, %d)", f, course), values(listText(got), code), listText(wanted), impl.OK)
		line := []byte(strings.Repeat(".", int(f.Length)))
		for _, p := range wanted {
			if length := p.To - p.From; narrowestCode != impl.OK || length < narrowest {
				narrowest, narrowestCode = length, impl.OK
			}
			for place := p.From; place < p.To; place++ {
				line[place] = '#'
				solid++
			}
		}
		lines = append([]string{string(line)}, lines...)
	}
	expect(t, fmt.Sprintf("NarrowestPier(%v)", f), values(impl.NarrowestPier(f)), narrowest, narrowestCode)
	expect(t, fmt.Sprintf("SolidQuarters(%v)", f), values(impl.SolidQuarters(f)), solid, impl.OK)
	expect(t, fmt.Sprintf("FrontLines(%v)", f), values(impl.FrontLines(f)), lines, impl.OK)
}

// expectLaid checks a course of a front that is laid by a bond.
func expectLaid(t *testing.T, f impl.Front, b impl.Bond, course int64) (code int64) {
	t.Helper()
	grid, _ := gridOf(f)
	var want []string
	for _, p := range wantedParts(grid[course]) {
		want = append(want, wantedLaid(b, course, p.To-p.From))
		if len(want[len(want)-1]) > 60 {
			code = impl.ErrFull
		}
	}
	if code != impl.OK {
		want = nil
	}
	laid, got := impl.LayFront(f, b, course)
	expect(t, fmt.Sprintf("LayFront(%v, %v, %d)", f, b, course), values(listText(laid), got), listText(want), code)
	return code
}

// expectLintel checks the lintel of an opening.
func expectLintel(t *testing.T, f impl.Front, k, bearing int64) (code int64) {
	t.Helper()
	want := impl.Part{From: f.Length}
	for place := range wantedLintel(f.Openings[k], bearing) {
		want.From, want.To = min(want.From, place), max(want.To, place+1)
		if place < 0 || place >= f.Length {
			code = impl.ErrState
		}
	}
	if f.Openings[k].High > f.Courses-1 {
		code = impl.ErrState
	}
	if code != impl.OK {
		want = impl.Part{}
	}
	expect(t, fmt.Sprintf("LintelOf(%v, %d, %d)", f, k, bearing), values(impl.LintelOf(f, k, bearing)), want, code)
	return code
}

// expectLintelClash checks the first two lintels that meet; nil stands for none.
func expectLintelClash(t *testing.T, f impl.Front, bearing int64, want []int64) {
	t.Helper()
	results := []any{0, 0, impl.ErrNotFound}
	if want != nil {
		results = []any{want[0], want[1], impl.OK}
	}
	expect(t, fmt.Sprintf("LintelClash(%v, %d)", f, bearing), values(impl.LintelClash(f, bearing)), results...)
}

// expectMirror checks a front from the other side against a grid that is turned around.
func expectMirror(t *testing.T, f impl.Front) {
	t.Helper()
	grid, _ := gridOf(f)
	for _, course := range grid {
		slices.Reverse(course)
	}
	want := frontOf(f.Length, f.Courses, openingsIn(grid)...)
	mirrored, code := impl.MirrorFront(f)
	expectFront(t, fmt.Sprintf("MirrorFront(%v)", f), mirrored, code, want, impl.OK)
	expect(t, fmt.Sprintf("ValidFront(%v)", mirrored), values(impl.ValidFront(mirrored)), true)
	again, code := impl.MirrorFront(mirrored)
	expectFront(t, fmt.Sprintf("MirrorFront(%v)", mirrored), again, code, f, impl.OK)
}

// expectAdded checks a front with one more opening.
func expectAdded(t *testing.T, f impl.Front, o impl.Opening) (code int64) {
	t.Helper()
	var want impl.Front
	_, isOpening := gridOf(frontOf(f.Length, f.Courses, o))
	grid, isApart := gridOf(frontOf(f.Length, f.Courses, append(slices.Clone(f.Openings), o)...))
	switch {
	case !isOpening:
		code = impl.ErrRange
	case !isApart:
		code = impl.ErrClash
	case len(f.Openings) == 8:
		code = impl.ErrFull
	default:
		want = frontOf(f.Length, f.Courses, openingsIn(grid)...)
	}
	more, got := impl.AddOpening(f, o)
	expectFront(t, fmt.Sprintf("AddOpening(%v, %v)", f, o), more, got, want, code)
	if code == impl.OK {
		expect(t, fmt.Sprintf("ValidFront(%v)", more), values(impl.ValidFront(more)), true)
	}
	return code
}

// eachSmallFront visits all fronts of these openings, with up to three of them in each order; they need not be valid.
func eachSmallFront(length, courses int64, openings []impl.Opening, visit func(f impl.Front)) {
	visit(frontOf(length, courses))
	for _, a := range openings {
		visit(frontOf(length, courses, a))
		for _, b := range openings {
			visit(frontOf(length, courses, a, b))
			for _, c := range openings {
				visit(frontOf(length, courses, a, b, c))
			}
		}
	}
}

// openingsWithin returns all openings with numbers of these ranges, also those that are none of any front.
func openingsWithin(lowPlace, highPlace, lowCourse, highCourse int64) []impl.Opening {
	var list []impl.Opening
	for from := lowPlace; from <= highPlace; from++ {
		for to := lowPlace; to <= highPlace; to++ {
			for low := lowCourse; low <= highCourse; low++ {
				for high := lowCourse; high <= highCourse; high++ {
					list = append(list, open(from, to, low, high))
				}
			}
		}
	}
	return list
}

// openingsOf returns all openings of fronts of this size.
func openingsOf(length, courses int64) []impl.Opening {
	return slices.DeleteFunc(openingsWithin(0, length, 0, courses), func(o impl.Opening) bool { return o.From >= o.To || o.Low >= o.High })
}

// smallFronts are all valid fronts of some small sizes with up to three openings.
func smallFronts() []impl.Front {
	var list []impl.Front
	for _, size := range [][2]int64{{1, 1}, {1, 3}, {2, 2}, {3, 2}, {4, 1}, {5, 1}, {2, 3}} {
		eachSmallFront(size[0], size[1], openingsOf(size[0], size[1]), func(f impl.Front) {
			if wantedFront(f) {
				list = append(list, f)
			}
		})
	}
	return list
}

func TestOpeningConstants(t *testing.T) {
	expect(t, "constants", values(impl.MaxOpenings), 8)
}

// TestOpeningsExample is the example of chapter 9.
func TestOpeningsExample(t *testing.T) {
	f := impl.Front{Length: 8, Courses: 2, Openings: []impl.Opening{{From: 2, To: 6, Low: 0, High: 1}}}
	expect(t, "ValidFront", values(impl.ValidFront(f)), true)
	expect(t, "FrontLines", values(impl.FrontLines(f)), []string{"########", "##....##"}, impl.OK)
}

func TestValidFront(t *testing.T) {
	counts := map[int]int{}
	for _, f := range validFronts() {
		guardedOne, unchanged := guardedFront(f)
		expect(t, fmt.Sprintf("ValidFront(%v)", f), values(impl.ValidFront(guardedOne)), true)
		unchanged(t, fmt.Sprintf("ValidFront(%v)", f))
		counts[len(f.Openings)]++
	}
	for n := range 9 {
		expect(t, fmt.Sprintf("there are several fronts with %d openings", n), values(counts[n] > 9), true)
	}
	for _, f := range invalidFronts() {
		guardedOne, unchanged := guardedFront(f)
		expect(t, fmt.Sprintf("ValidFront(%s)", outline(f)), values(impl.ValidFront(guardedOne)), false)
		unchanged(t, fmt.Sprintf("ValidFront(%s)", outline(f)))
	}
}

// TestValidFrontAtEachEdge moves each number of a front on its own.
func TestValidFrontAtEachEdge(t *testing.T) {
	for n := int64(-3); n <= 210; n++ {
		expect(t, fmt.Sprintf("the length %d", n), values(impl.ValidFront(frontOf(n, 1)), impl.ValidFront(frontOf(n, 40, open(1, 3, 0, 40)))), n >= 1 && n <= 200, n >= 3 && n <= 200)
		expect(t, fmt.Sprintf("%d courses", n), values(impl.ValidFront(frontOf(1, n)), impl.ValidFront(frontOf(200, n, open(0, 200, 2, 5)))), n >= 1 && n <= 40, n >= 5 && n <= 40)
		expect(t, fmt.Sprintf("an opening from %d", n), values(impl.ValidFront(frontOf(200, 40, open(n, 150, 3, 9)))), n >= 0 && n < 150)
		expect(t, fmt.Sprintf("an opening to %d", n), values(impl.ValidFront(frontOf(200, 40, open(50, n, 3, 9)))), n > 50 && n <= 200)
		expect(t, fmt.Sprintf("an opening from the course %d", n), values(impl.ValidFront(frontOf(200, 40, open(3, 9, n, 30)))), n >= 0 && n < 30)
		expect(t, fmt.Sprintf("an opening to the course %d", n), values(impl.ValidFront(frontOf(200, 40, open(3, 9, 10, n)))), n > 10 && n <= 40)
	}
	for n := range 20 {
		expect(t, fmt.Sprintf("%d openings", n), values(impl.ValidFront(frontOf(200, 40, windows(n)...)), impl.ValidFront(frontOf(200, 40, stacked(n)...))), n <= 8, n <= 8)
	}
}

// TestValidFrontOfAll: small fronts with any openings, and with up to three openings of theirs in each order.
func TestValidFrontOfAll(t *testing.T) {
	counts := map[bool]int{}
	check := func(f impl.Front) {
		valid := wantedFront(f)
		counts[valid]++
		if impl.ValidFront(f) != valid {
			t.Errorf("ValidFront(%v): got %v", f, !valid)
		}
	}
	for _, o := range openingsWithin(-1, 4, -1, 3) {
		for length := int64(-1); length <= 4; length++ {
			for courses := int64(-1); courses <= 3; courses++ {
				check(frontOf(length, courses, o))
				check(frontOf(length, courses, open(1, 2, 0, 1), o))
				check(frontOf(length, courses, o, open(1, 2, 0, 1)))
			}
		}
	}
	for _, size := range [][2]int64{{1, 3}, {3, 1}, {2, 2}, {3, 2}, {2, 3}, {5, 1}} {
		eachSmallFront(size[0], size[1], openingsOf(size[0], size[1]), check)
	}
	expect(t, "there are many fronts of both kinds", values(counts[true] > 500, counts[false] > 500), true, true)
}

// TestOverlaps: two openings anywhere in a wall, of which the second one is below, beside, within or around the first one.
func TestOverlaps(t *testing.T) {
	first := open(2, 4, 2, 4)
	for _, o := range openingsOf(6, 6) {
		openings := []impl.Opening{first, o}
		slices.SortFunc(openings, func(a, b impl.Opening) int { return slices.Compare([]int64{a.From, a.Low}, []int64{b.From, b.Low}) })
		apart := o.To <= 2 || o.From >= 4 || o.High <= 2 || o.Low >= 4
		expect(t, fmt.Sprintf("%v and %v", first, o), values(impl.ValidFront(frontOf(6, 6, openings...))), apart)
	}
}

func TestSameFront(t *testing.T) {
	fronts := []impl.Front{
		frontOf(8, 2), frontOf(8, 3), frontOf(9, 2), frontOf(8, 2, open(2, 6, 0, 1)), frontOf(9, 2, open(2, 6, 0, 1)), frontOf(8, 3, open(2, 6, 0, 1)), frontOf(8, 2, open(1, 6, 0, 1)), frontOf(8, 2, open(2, 7, 0, 1)), frontOf(8, 2, open(2, 6, 1, 1)), frontOf(8, 2, open(2, 6, 0, 2)), frontOf(8, 2, open(2, 6, 0, 1), open(6, 8, 0, 1)), frontOf(8, 2, open(6, 8, 0, 1), open(2, 6, 0, 1)), frontOf(8, 2, open(2, 6, 0, 1), open(2, 6, 0, 1)), frontOf(2, 8), frontOf(8, 2, open(0, 1, 2, 6)),
		// they need not be valid
		{}, frontOf(-1, 2), frontOf(8, -1), frontOf(8, 2, open(6, 2, 0, 1)), frontOf(8, 2, impl.Opening{}), frontOf(8, 2, make([]impl.Opening, 2)...), frontOf(200, 40, windows(9)...), frontOf(200, 40, windows(50)...), frontOf(extremes[0], extremes[8], open(extremes[0], extremes[8], extremes[8], extremes[0])),
	}
	for k, a := range fronts {
		for m, b := range fronts {
			one, oneUnchanged := guardedFront(a)
			other, otherUnchanged := guardedFront(b)
			expect(t, fmt.Sprintf("SameFront(%v, %v)", a, b), values(impl.SameFront(one, other)), k == m)
			oneUnchanged(t, "SameFront")
			otherUnchanged(t, "SameFront")
		}
	}
	none := frontOf(8, 2, []impl.Opening{}...)
	expect(t, "a nil and an empty list", values(impl.SameFront(frontOf(8, 2), none), impl.SameFront(none, frontOf(8, 2))), true, true)
}

func TestAddOpening(t *testing.T) {
	base := []impl.Opening{open(2, 3, 0, 2), open(2, 4, 3, 4), open(6, 8, 1, 2)}
	known := []struct {
		o     impl.Opening
		index int
	}{
		// first by From, and by Low beside an equal From
		{open(0, 1, 0, 1), 0}, {open(1, 2, 0, 4), 0}, {open(0, 9, 2, 3), 0}, {open(0, 2, 3, 4), 0},
		// between others: beside an equal From by Low, and by From alone, whatever To, Low and High are
		{open(2, 9, 2, 3), 1}, {open(3, 4, 0, 1), 2}, {open(4, 5, 3, 4), 2}, {open(5, 9, 0, 1), 2}, {open(6, 7, 0, 1), 2}, {open(3, 6, 1, 2), 2},
		// last
		{open(6, 7, 2, 3), 3}, {open(6, 9, 3, 4), 3}, {open(7, 8, 0, 1), 3}, {open(8, 9, 0, 4), 3}, {open(8, 9, 1, 2), 3},
	}
	for _, k := range known {
		f, unchanged := guardedFront(frontOf(9, 4, base...))
		more, code := impl.AddOpening(f, k.o)
		expectFront(t, fmt.Sprintf("AddOpening(%v, %v)", f, k.o), more, code, frontOf(9, 4, slices.Insert(slices.Clone(base), k.index, k.o)...), impl.OK)
		unchanged(t, "AddOpening")
	}
	more, code := impl.AddOpening(frontOf(1, 1), open(0, 1, 0, 1))
	expectFront(t, "AddOpening to a front without openings", more, code, frontOf(1, 1, open(0, 1, 0, 1)), impl.OK)
}

// TestAddOpeningOfMany: any openings beside any others, until there are MaxOpenings.
func TestAddOpeningOfMany(t *testing.T) {
	codes := map[int64]int{}
	for _, f := range smallFronts() {
		if len(f.Openings) > 2 {
			continue
		}
		for _, o := range openingsWithin(-1, f.Length+1, 0, f.Courses) {
			codes[expectAdded(t, f, o)]++
		}
	}
	for k, f := range append(mixedFronts(), greatFronts()...) {
		for place := range f.Length {
			course := (place*7 + int64(k)) % f.Courses
			for _, o := range []impl.Opening{open(place, place+1, course, course+1), open(place, min(place+3, f.Length), course, f.Courses), open(place-1, place+1, course, course+1), open(0, place+1, 0, course+1)} {
				codes[expectAdded(t, f, o)]++
			}
		}
	}
	expect(t, "all of these codes occur", values(codes[impl.OK] > 100, codes[impl.ErrRange] > 100, codes[impl.ErrClash] > 100, codes[impl.ErrFull] > 100), true, true, true, true)
}

// TestAddOpeningErrors: a front that is not valid, then an opening that is none, then one that overlaps another one, and then too many.
func TestAddOpeningErrors(t *testing.T) {
	check := func(f impl.Front, o impl.Opening, code int64) {
		t.Helper()
		more, got := impl.AddOpening(f, o)
		expect(t, fmt.Sprintf("AddOpening(%s, %v)", outline(f), o), values(more, got), impl.Front{}, code)
	}
	for _, f := range invalidFronts() {
		for _, o := range []impl.Opening{{}, open(0, 1, 0, 1), open(2, 6, 0, 1), open(-1, 1, 0, 1), open(199, 200, 39, 40), open(extremes[0], extremes[8], 0, 1)} {
			check(f, o, impl.ErrInvalid)
		}
	}
	full, whole := frontOf(200, 40, windows(8)...), frontOf(9, 3, open(0, 9, 0, 3))
	for _, o := range wrongOpenings(9, 3) {
		check(frontOf(9, 3), o, impl.ErrRange)
		check(frontOf(9, 3, open(4, 5, 1, 2)), o, impl.ErrRange)
		check(whole, o, impl.ErrRange)
	}
	for _, o := range wrongOpenings(200, 40) {
		check(full, o, impl.ErrRange)
	}
	for _, o := range openingsOf(9, 3) {
		check(whole, o, impl.ErrClash)
	}
	for k, o := range full.Openings {
		check(full, o, impl.ErrClash)
		check(full, open(0, 200, 0, 40), impl.ErrClash)
		// just one quarter in common, with the opening k alone
		check(full, open(o.To-1, o.To+1, 0, 1), impl.ErrClash)
		check(full, open(o.From-1, o.From+1, 0, 40), impl.ErrClash)
		check(full, open(o.To, o.To+1, 0, 1), impl.ErrFull)
		check(full, open(o.From, o.To, 1, 2), impl.ErrFull)
		seven := frontOf(200, 40, slices.Delete(windows(8), k, k+1)...)
		more, code := impl.AddOpening(seven, o)
		expectFront(t, "the eighth opening", more, code, full, impl.OK)
	}
	check(full, open(0, 1, 0, 40), impl.ErrFull)
	check(full, open(16, 200, 0, 40), impl.ErrFull)
	check(full, open(0, 200, 1, 40), impl.ErrFull)
	check(frontOf(4, 9, stacked(8)...), open(1, 3, 8, 9), impl.ErrFull)
	check(frontOf(4, 9, stacked(8)...), open(1, 3, 7, 9), impl.ErrClash)
}

func TestKnownParts(t *testing.T) {
	for _, k := range knownFronts {
		var all [][]impl.Part
		for course := range k.front.Courses {
			parts, code := impl.PartsOf(k.front, course)
			expect(t, fmt.Sprintf("PartsOf(%v, %d)", k.front, course), values(code), impl.OK)
			all = append(all, parts)
		}
		expect(t, fmt.Sprintf("the parts of %v", k.front), values(listText(all)), k.parts)
	}
}

func TestNarrowestPier(t *testing.T) {
	known := []struct {
		front impl.Front
		want  int64
		code  int64
	}{
		{frontOf(8, 2, open(2, 6, 0, 1)), 2, impl.OK}, {frontOf(200, 40), 200, impl.OK}, {frontOf(1, 1), 1, impl.OK}, {frontOf(200, 40, open(0, 200, 0, 39), open(0, 199, 39, 40)), 1, impl.OK}, {frontOf(200, 40, open(0, 200, 0, 39), open(1, 200, 39, 40)), 1, impl.OK},
		// the narrowest one at the left end, at the right end, between openings, in the first course and in the last one
		{frontOf(20, 3, open(1, 10, 1, 2)), 1, impl.OK}, {frontOf(20, 3, open(5, 17, 0, 1)), 3, impl.OK}, {frontOf(20, 3, open(5, 8, 2, 3), open(10, 14, 2, 3)), 2, impl.OK}, {frontOf(20, 3, open(5, 8, 0, 1), open(10, 14, 2, 3)), 5, impl.OK}, {frontOf(20, 3, open(7, 8, 0, 1), open(14, 15, 2, 3)), 5, impl.OK},
		// openings that leave no part at an end, or between them, leave the others
		{frontOf(20, 1, open(0, 8, 0, 1)), 12, impl.OK}, {frontOf(20, 1, open(8, 20, 0, 1)), 8, impl.OK}, {frontOf(20, 1, open(6, 8, 0, 1), open(8, 11, 0, 1)), 6, impl.OK}, {frontOf(20, 2, open(0, 20, 0, 1)), 20, impl.OK}, {frontOf(20, 2, open(0, 20, 1, 2), open(5, 9, 0, 1)), 5, impl.OK},
		// no parts at all
		{frontOf(20, 2, open(0, 20, 0, 2)), 0, impl.ErrNotFound}, {frontOf(1, 1, open(0, 1, 0, 1)), 0, impl.ErrNotFound}, {frontOf(20, 2, open(0, 20, 0, 1), open(0, 20, 1, 2)), 0, impl.ErrNotFound}, {frontOf(200, 40, open(0, 200, 0, 40)), 0, impl.ErrNotFound},
	}
	for _, k := range known {
		expect(t, fmt.Sprintf("NarrowestPier(%v)", k.front), values(impl.NarrowestPier(k.front)), k.want, k.code)
	}
}

// TestPromise9Parts: parts are the longest stretches of quarters that are in no opening, for all fronts and all courses.
func TestPromise9Parts(t *testing.T) {
	for _, f := range append(validFronts(), smallFronts()...) {
		grid, _ := gridOf(f)
		var parts [][]impl.Part
		for _, course := range grid {
			parts = append(parts, wantedParts(course))
		}
		guardedOne, unchanged := guardedFront(f)
		expectParts(t, guardedOne, parts)
		unchanged(t, "the functions of parts")
	}
}

// TestPromise9Area: an opening takes its own area, as many quarters as it has in all its courses, and no others.
func TestPromise9Area(t *testing.T) {
	for _, f := range append(validFronts(), smallFronts()...) {
		built, area := frontOf(f.Length, f.Courses), f.Length*f.Courses
		expect(t, fmt.Sprintf("SolidQuarters(%v)", built), values(impl.SolidQuarters(built)), area, impl.OK)
		// from the last one to the first one, so that each one is put before those that are there
		for _, o := range slices.Backward(f.Openings) {
			before, _ := impl.FrontLines(built)
			more, code := impl.AddOpening(built, o)
			expect(t, fmt.Sprintf("AddOpening(%v, %v)", built, o), values(code), impl.OK)
			area -= (o.To - o.From) * (o.High - o.Low)
			expect(t, fmt.Sprintf("SolidQuarters(%v)", more), values(impl.SolidQuarters(more)), area, impl.OK)
			for course := o.Low; course < o.High; course++ {
				line := before[f.Courses-1-course]
				before[f.Courses-1-course] = line[:o.From] + strings.Repeat(".", int(o.To-o.From)) + line[o.To:]
			}
			expect(t, fmt.Sprintf("FrontLines(%v)", more), values(impl.FrontLines(more)), before, impl.OK)
			built = more
		}
		expect(t, fmt.Sprintf("%v is built", f), values(impl.SameFront(built, f)), true)
	}
}

func TestLayFront(t *testing.T) {
	f := frontOf(20, 4, open(0, 3, 3, 4), open(5, 9, 0, 3), open(9, 10, 1, 2), open(13, 20, 2, 4))
	known := map[string][4]string{
		// Each part begins as its course does, and has a piece of its own for what is left. The courses alternate as in a wall.
		"stretcher": {"[SC SST]", "[BT BSS]", "[SC S]", "[BSS]"},
		"header":    {"[HHC HHHHHC]", "[CHH CHHHHC]", "[HHC HH]", "[CHHHHC]"},
		"english":   {"[SC SST]", "[HCH HCHHHC]", "[SC S]", "[HCHHHC]"},
		"flemish":   {"[SC SHSC]", "[HCB HCSHC]", "[SC S]", "[HCSHC]"},
		"garden":    {"[SC SST]", "[BT BSS]", "[SC S]", "[HCHHHC]"},
	}
	for _, b := range libraryBonds {
		for course, want := range known[b.Name] {
			laid, code := impl.LayFront(f, b, int64(course))
			expect(t, fmt.Sprintf("LayFront by %s in the course %d", b.Name, course), values(listText(laid), code), want, impl.OK)
		}
	}
	// a course without parts has no pieces, although there are others
	laid, code := impl.LayFront(frontOf(8, 2, open(0, 8, 0, 1)), libraryBonds[0], 0)
	expect(t, "LayFront of a course without parts", values(listText(laid), code), "[]", impl.OK)
	laid, code = impl.LayFront(frontOf(8, 2, open(0, 8, 0, 1)), libraryBonds[0], 1)
	expect(t, "LayFront of the course above", values(listText(laid), code), "[BSB]", impl.OK)
}

// TestLayFrontFull: a part with more than MaxPieces pieces, and one with just MaxPieces.
func TestLayFrontFull(t *testing.T) {
	header, closers := libraryBonds[1], bondOf(impl.Course{Lead: "CCCCCC", Cycle: "H"})
	known := []struct {
		front  impl.Front
		bond   impl.Bond
		course int64
		want   string
		code   int64
	}{
		{frontOf(120, 2), header, 0, "[" + repeated(60, "H") + "]", impl.OK}, {frontOf(121, 2), header, 0, "[]", impl.ErrFull}, {frontOf(120, 2), header, 1, "[]", impl.ErrFull}, {frontOf(119, 2), header, 1, "[" + repeated(1, "C", 59, "H") + "]", impl.OK}, {frontOf(114, 1), closers, 0, "[" + repeated(6, "C", 54, "H") + "]", impl.OK}, {frontOf(115, 1), closers, 0, "[]", impl.ErrFull},
		// an opening makes parts that are short enough, or the first one or the last one alone; that of another course does not
		{frontOf(200, 2, open(100, 102, 0, 1)), header, 0, "[" + repeated(50, "H", 1, " ", 49, "H") + "]", impl.OK}, {frontOf(200, 2, open(0, 80, 0, 1)), header, 0, "[" + repeated(60, "H") + "]", impl.OK}, {frontOf(200, 2, open(120, 200, 0, 1)), header, 0, "[" + repeated(60, "H") + "]", impl.OK},
		{frontOf(200, 2, open(0, 79, 0, 1)), header, 0, "[]", impl.ErrFull}, {frontOf(200, 2, open(121, 200, 0, 1)), header, 0, "[]", impl.ErrFull}, {frontOf(200, 2, open(10, 12, 0, 1)), header, 0, "[]", impl.ErrFull}, {frontOf(200, 2, open(188, 190, 0, 1)), header, 0, "[]", impl.ErrFull}, {frontOf(200, 2, open(100, 102, 1, 2)), header, 0, "[]", impl.ErrFull},
		// where there is no part, nothing is too long
		{frontOf(200, 2, open(0, 200, 0, 1)), header, 0, "[]", impl.OK}, {frontOf(200, 2, open(0, 200, 0, 1)), header, 1, "[]", impl.ErrFull},
	}
	for _, k := range known {
		laid, code := impl.LayFront(k.front, k.bond, k.course)
		expect(t, fmt.Sprintf("LayFront(%v, %v, %d)", k.front, k.bond, k.course), values(listText(laid), code), k.want, k.code)
	}
}

// TestLayFrontOfAll: each part of each course is laid on its own, by many bonds.
func TestLayFrontOfAll(t *testing.T) {
	codes := map[int64]int{}
	bonds := validBonds()
	for k, f := range validFronts() {
		for course := range f.Courses {
			for m := range 4 {
				b, unchangedBond := guardedBond(bonds[(k*11+int(course)*5+m*29)%len(bonds)])
				guardedOne, unchanged := guardedFront(f)
				codes[expectLaid(t, guardedOne, b, course)]++
				unchanged(t, "LayFront")
				unchangedBond(t, "LayFront")
			}
		}
	}
	expect(t, "both codes occur", values(codes[impl.OK] > 100, codes[impl.ErrFull] > 100), true, true)
	for _, f := range smallFronts() {
		for course := range f.Courses {
			expectLaid(t, f, libraryBonds[2], course)
		}
	}
}

// TestPartErrors: the errors of the functions of parts in their order, each beside zero values.
func TestPartErrors(t *testing.T) {
	check := func(f impl.Front, b impl.Bond, course, partsCode, laidCode int64) {
		t.Helper()
		if partsCode != impl.OK {
			expect(t, fmt.Sprintf("PartsOf(%s, %d)", outline(f), course), values(impl.PartsOf(f, course)), []impl.Part(nil), partsCode)
		}
		expect(t, fmt.Sprintf("LayFront(%s, %v, %d)", outline(f), b, course), values(impl.LayFront(f, b, course)), []string(nil), laidCode)
	}
	english, many := libraryBonds[2], libraryBonds[1]
	for _, f := range invalidFronts() {
		expect(t, fmt.Sprintf("NarrowestPier(%s)", outline(f)), values(impl.NarrowestPier(f)), 0, impl.ErrInvalid)
		expect(t, fmt.Sprintf("SolidQuarters(%s)", outline(f)), values(impl.SolidQuarters(f)), 0, impl.ErrInvalid)
		expect(t, fmt.Sprintf("FrontLines(%s)", outline(f)), values(impl.FrontLines(f)), []string(nil), impl.ErrInvalid)
		expect(t, fmt.Sprintf("MirrorFront(%s)", outline(f)), values(impl.MirrorFront(f)), impl.Front{}, impl.ErrInvalid)
		for _, course := range append([]int64{0, 1, 2, 40, 1000}, extremes...) {
			check(f, english, course, impl.ErrInvalid, impl.ErrInvalid)
			check(f, impl.Bond{}, course, impl.ErrInvalid, impl.ErrInvalid)
		}
	}
	for _, b := range invalidBonds() {
		for _, course := range []int64{-1, 0, 1, 2} {
			check(frontOf(8, 2, open(0, 8, 0, 1)), b, course, impl.OK, impl.ErrInvalid)
		}
	}
	for _, f := range append(validFronts(), frontOf(200, 1), frontOf(200, 2)) {
		for _, course := range append(outside(0, f.Courses-1), 40, 41, 1000, 1001) {
			if course >= f.Courses || course < 0 {
				check(f, many, course, impl.ErrRange, impl.ErrRange)
				check(f, impl.Bond{}, course, impl.ErrRange, impl.ErrInvalid)
			}
		}
	}
}

func TestLintelOf(t *testing.T) {
	f := frontOf(30, 4, open(0, 5, 0, 3), open(5, 8, 0, 1), open(10, 12, 1, 3), open(11, 20, 0, 1), open(20, 28, 2, 4), open(28, 30, 0, 3))
	known := []struct {
		k, bearing int64
		want       impl.Part
		code       int64
	}{
		// without a bearing, a lintel is as long as its opening, also at the ends of the wall
		{0, 0, impl.Part{From: 0, To: 5}, impl.OK}, {1, 0, impl.Part{From: 5, To: 8}, impl.OK}, {2, 0, impl.Part{From: 10, To: 12}, impl.OK}, {3, 0, impl.Part{From: 11, To: 20}, impl.OK}, {5, 0, impl.Part{From: 28, To: 30}, impl.OK},
		// it ends just at the left end, or at the right end; or it reaches a quarter beyond
		{1, 4, impl.Part{From: 1, To: 12}, impl.OK}, {1, 5, impl.Part{From: 0, To: 13}, impl.OK}, {1, 6, impl.Part{}, impl.ErrState}, {3, 10, impl.Part{From: 1, To: 30}, impl.OK}, {3, 11, impl.Part{}, impl.ErrState}, {3, 9, impl.Part{From: 2, To: 29}, impl.OK}, {2, 10, impl.Part{From: 0, To: 22}, impl.OK}, {2, 11, impl.Part{}, impl.ErrState},
		{0, 1, impl.Part{}, impl.ErrState}, {5, 1, impl.Part{}, impl.ErrState}, {0, 20, impl.Part{}, impl.ErrState}, {5, 20, impl.Part{}, impl.ErrState},
		// it may lie across another opening, of its course or not; above the last course there is none
		{1, 1, impl.Part{From: 4, To: 9}, impl.OK}, {4, 0, impl.Part{}, impl.ErrState}, {4, 1, impl.Part{}, impl.ErrState}, {4, 20, impl.Part{}, impl.ErrState},
	}
	for _, k := range known {
		expect(t, fmt.Sprintf("LintelOf(%v, %d, %d)", f, k.k, k.bearing), values(impl.LintelOf(f, k.k, k.bearing)), k.want, k.code)
	}
	wide := frontOf(200, 40, open(20, 180, 0, 39), open(180, 181, 0, 40))
	expect(t, "LintelOf with the greatest bearing", values(impl.LintelOf(wide, 0, 20)), impl.Part{From: 0, To: 200}, impl.OK)
	expect(t, "LintelOf up to the last course", values(impl.LintelOf(wide, 1, 0)), impl.Part{}, impl.ErrState)
	expect(t, "LintelOf in a wall of one course", values(impl.LintelOf(frontOf(9, 1, open(4, 5, 0, 1)), 0, 0)), impl.Part{}, impl.ErrState)
}

// TestLintelsOfAll: the lintels of all openings and whether they meet, with each bearing.
func TestLintelsOfAll(t *testing.T) {
	codes, clashes := map[int64]int{}, map[bool]int{}
	for _, f := range append(validFronts(), smallFronts()...) {
		bearings := []int64{0, 1, 2, 3, 5, 10, 19, 20}
		if f.Length < 6 {
			bearings = []int64{0, 1, 2, 20}
		}
		for _, bearing := range bearings {
			guardedOne, unchanged := guardedFront(f)
			for k := range f.Openings {
				codes[expectLintel(t, guardedOne, int64(k), bearing)]++
			}
			first := wantedLintelClash(f, bearing)
			clashes[first != nil]++
			expectLintelClash(t, guardedOne, bearing, first)
			unchanged(t, "the functions of lintels")
		}
	}
	expect(t, "all of these occur", values(codes[impl.OK] > 100, codes[impl.ErrState] > 100, clashes[true] > 100, clashes[false] > 100), true, true, true, true)
}

func TestLintelClash(t *testing.T) {
	known := []struct {
		front   impl.Front
		bearing int64
		want    []int64
	}{
		// no openings, just one, and two far from each other
		{frontOf(30, 3), 20, nil}, {frontOf(30, 3, open(5, 8, 0, 1)), 20, nil}, {frontOf(200, 3, open(5, 8, 0, 1), open(100, 110, 0, 1)), 20, nil},
		// lintels that touch, and lintels that meet in one quarter or in more: with 0 quarters, 1 quarter, 4 quarters and 40 quarters between the openings
		{frontOf(30, 3, open(5, 8, 0, 1), open(8, 9, 0, 1)), 0, nil}, {frontOf(30, 3, open(5, 8, 0, 1), open(8, 9, 0, 1)), 1, []int64{0, 1}}, {frontOf(30, 3, open(5, 8, 0, 1), open(9, 10, 0, 1)), 0, nil}, {frontOf(30, 3, open(5, 8, 0, 1), open(9, 10, 0, 1)), 1, []int64{0, 1}}, {frontOf(30, 3, open(5, 8, 0, 1), open(12, 20, 0, 1)), 2, nil}, {frontOf(30, 3, open(5, 8, 0, 1), open(11, 20, 0, 1)), 2, []int64{0, 1}}, {frontOf(30, 3, open(5, 8, 0, 1), open(12, 20, 0, 1)), 3, []int64{0, 1}},
		{frontOf(200, 3, open(50, 80, 0, 1), open(120, 130, 0, 1)), 20, nil}, {frontOf(200, 3, open(50, 80, 0, 1), open(119, 130, 0, 1)), 20, []int64{0, 1}}, {frontOf(200, 3, open(50, 80, 0, 1), open(119, 130, 0, 1)), 19, nil},
		// the same High, whatever Low is, and different ones; openings above one another never have the same High
		{frontOf(30, 3, open(5, 8, 0, 2), open(9, 12, 1, 2)), 1, []int64{0, 1}}, {frontOf(30, 3, open(5, 8, 1, 2), open(9, 12, 0, 1)), 20, nil}, {frontOf(30, 3, open(5, 8, 0, 1), open(9, 12, 0, 2)), 20, nil}, {frontOf(30, 3, open(5, 8, 0, 1), open(5, 8, 1, 2)), 20, nil}, {frontOf(30, 3, open(4, 9, 1, 2), open(5, 8, 0, 1)), 20, nil},
		// lintels beyond the wall, at its left end, at its right end, and above its last course
		{frontOf(9, 2, open(0, 1, 0, 1), open(8, 9, 0, 1)), 3, nil}, {frontOf(9, 2, open(0, 1, 0, 1), open(8, 9, 0, 1)), 4, []int64{0, 1}}, {frontOf(9, 2, open(0, 1, 0, 1), open(8, 9, 0, 1)), 20, []int64{0, 1}}, {frontOf(30, 2, open(0, 3, 0, 1), open(5, 9, 0, 1)), 2, []int64{0, 1}}, {frontOf(30, 2, open(20, 24, 0, 1), open(27, 30, 0, 1)), 2, []int64{0, 1}}, {frontOf(30, 2, open(5, 8, 0, 2), open(9, 12, 1, 2)), 1, []int64{0, 1}}, {frontOf(30, 1, open(5, 8, 0, 1), open(9, 12, 0, 1)), 1, []int64{0, 1}}, {frontOf(30, 1, open(5, 8, 0, 1), open(9, 12, 0, 1)), 0, nil},
		// several clashes: the first one by a, and then by b; b need not follow a
		{frontOf(30, 3, open(1, 2, 0, 1), open(4, 5, 0, 1), open(7, 8, 0, 1)), 2, []int64{0, 1}}, {frontOf(30, 3, open(1, 2, 0, 1), open(4, 5, 0, 1), open(7, 8, 0, 1)), 20, []int64{0, 1}}, {frontOf(30, 3, open(1, 2, 0, 1), open(9, 10, 0, 1), open(12, 13, 0, 1)), 2, []int64{1, 2}},
		{frontOf(30, 3, open(1, 2, 0, 1), open(2, 3, 1, 2), open(3, 4, 0, 1), open(4, 5, 1, 2)), 2, []int64{0, 2}}, {frontOf(30, 3, open(1, 2, 0, 1), open(2, 3, 1, 2), open(4, 5, 1, 2), open(9, 10, 0, 1)), 4, []int64{0, 3}}, {frontOf(30, 3, open(1, 2, 0, 1), open(2, 3, 1, 2), open(4, 5, 1, 2), open(9, 10, 0, 1)), 3, []int64{1, 2}}, {frontOf(30, 3, open(1, 2, 1, 3), open(4, 5, 0, 2), open(9, 10, 0, 2), open(11, 12, 0, 3)), 1, nil},
		{frontOf(200, 40, windows(8)...), 0, nil}, {frontOf(200, 40, windows(8)...), 1, []int64{0, 1}}, {frontOf(200, 40, stacked(8)...), 20, nil}, {frontOf(60, 9, append(stacked(7), open(40, 41, 2, 6))...), 20, []int64{5, 7}}, {frontOf(60, 9, append(stacked(7), open(20, 21, 2, 7))...), 9, []int64{6, 7}},
	}
	for _, k := range known {
		expectLintelClash(t, k.front, k.bearing, k.want)
	}
}

// TestLintelErrors: a front that is not valid, then numbers out of range, each beside zero values.
func TestLintelErrors(t *testing.T) {
	check := func(f impl.Front, k, bearing, code int64) {
		t.Helper()
		expect(t, fmt.Sprintf("LintelOf(%s, %d, %d)", outline(f), k, bearing), values(impl.LintelOf(f, k, bearing)), impl.Part{}, code)
	}
	checkClash := func(f impl.Front, bearing, code int64) {
		t.Helper()
		expect(t, fmt.Sprintf("LintelClash(%s, %d)", outline(f), bearing), values(impl.LintelClash(f, bearing)), 0, 0, code)
	}
	for _, f := range invalidFronts() {
		for _, n := range append([]int64{0, 20, 21}, extremes...) {
			check(f, 0, n, impl.ErrInvalid)
			check(f, n, 1, impl.ErrInvalid)
			check(f, n, 21, impl.ErrInvalid)
			checkClash(f, n, impl.ErrInvalid)
		}
	}
	for _, f := range validFronts() {
		count := int64(len(f.Openings))
		for _, bearing := range outside(0, 20) {
			for k := range count {
				check(f, k, bearing, impl.ErrRange)
			}
			check(f, -1, bearing, impl.ErrRange)
			checkClash(f, bearing, impl.ErrRange)
		}
		for _, k := range append([]int64{count, count + 1, 8, -1}, extremes...) {
			if k < 0 || k >= count {
				check(f, k, 0, impl.ErrRange)
				check(f, k, 20, impl.ErrRange)
			}
		}
	}
}

func TestMirrorFront(t *testing.T) {
	known := []struct{ front, mirrored impl.Front }{
		{frontOf(8, 2, open(2, 6, 0, 1)), frontOf(8, 2, open(2, 6, 0, 1))}, {frontOf(8, 2), frontOf(8, 2)}, {frontOf(1, 1, open(0, 1, 0, 1)), frontOf(1, 1, open(0, 1, 0, 1))}, {frontOf(8, 2, open(0, 8, 1, 2)), frontOf(8, 2, open(0, 8, 1, 2))},
		// from one end to the other end; courses stay where they are
		{frontOf(8, 2, open(0, 3, 0, 1)), frontOf(8, 2, open(5, 8, 0, 1))}, {frontOf(8, 3, open(7, 8, 1, 3)), frontOf(8, 3, open(0, 1, 1, 3))}, {frontOf(200, 40, open(199, 200, 39, 40)), frontOf(200, 40, open(0, 1, 39, 40))},
		// openings that change their order, and one that another one reaches around, which do not
		{frontOf(9, 2, open(0, 1, 0, 1), open(2, 5, 0, 2)), frontOf(9, 2, open(4, 7, 0, 2), open(8, 9, 0, 1))}, {frontOf(9, 2, open(0, 9, 0, 1), open(2, 3, 1, 2)), frontOf(9, 2, open(0, 9, 0, 1), open(6, 7, 1, 2))}, {frontOf(9, 2, open(1, 8, 1, 2), open(2, 7, 0, 1)), frontOf(9, 2, open(1, 8, 1, 2), open(2, 7, 0, 1))},
		// openings with equal To begin at the same place, and are ordered by Low; those with equal From are ordered by To
		{frontOf(9, 3, open(2, 6, 1, 2), open(4, 6, 0, 1)), frontOf(9, 3, open(3, 5, 0, 1), open(3, 7, 1, 2))}, {frontOf(9, 3, open(2, 6, 0, 1), open(4, 6, 1, 2)), frontOf(9, 3, open(3, 7, 0, 1), open(3, 5, 1, 2))}, {frontOf(9, 3, open(2, 6, 0, 1), open(2, 6, 2, 3)), frontOf(9, 3, open(3, 7, 0, 1), open(3, 7, 2, 3))}, {frontOf(9, 3, open(2, 4, 0, 1), open(2, 6, 1, 2)), frontOf(9, 3, open(3, 7, 1, 2), open(5, 7, 0, 1))},
		{frontOf(9, 3, open(0, 9, 2, 3), open(1, 9, 1, 2), open(3, 9, 0, 1)), frontOf(9, 3, open(0, 6, 0, 1), open(0, 8, 1, 2), open(0, 9, 2, 3))},
		{frontOf(17, 1, windows(8)...), frontOf(17, 1, windows(8)...)}, {frontOf(4, 8, stacked(8)...), frontOf(4, 8, stacked(8)...)},
	}
	for _, k := range known {
		mirrored, code := impl.MirrorFront(k.front)
		expectFront(t, fmt.Sprintf("MirrorFront(%v)", k.front), mirrored, code, k.mirrored, impl.OK)
	}
}

// TestMirrorFrontOfAll: the places of a front from the other side, for all fronts; and a front from there is the front itself.
func TestMirrorFrontOfAll(t *testing.T) {
	for _, f := range append(validFronts(), smallFronts()...) {
		guardedOne, unchanged := guardedFront(f)
		expectMirror(t, guardedOne)
		unchanged(t, "MirrorFront")
	}
}

// TestPromise1Openings: every function of chapter 9 returns for all arguments, modifies none, and keeps none of its results.
func TestPromise1Openings(t *testing.T) {
	numbers := append([]int64{2, 7, 8, 20, 21, 39, 40}, extremes...)
	bonds := append(slices.Clone(libraryBonds), impl.Bond{}, bondOf(impl.Course{Lead: "C"}))
	fronts := slices.Concat(greatFronts(), mixedFronts()[:60], invalidFronts())
	for _, f := range fronts {
		guardedOne, unchanged := guardedFront(f)
		expect(t, "ValidFront", values(impl.ValidFront(guardedOne)), values(impl.ValidFront(guardedOne))...)
		expect(t, "SameFront", values(impl.SameFront(guardedOne, f)), true)
		expect(t, "NarrowestPier", values(impl.NarrowestPier(guardedOne)), values(impl.NarrowestPier(guardedOne))...)
		expect(t, "SolidQuarters", values(impl.SolidQuarters(guardedOne)), values(impl.SolidQuarters(guardedOne))...)
		again(t, "FrontLines", "spoilt", func() ([]string, int64) { return impl.FrontLines(guardedOne) })
		againFront(t, "MirrorFront", func() (impl.Front, int64) { return impl.MirrorFront(guardedOne) })
		for _, n := range numbers {
			again(t, "PartsOf", impl.Part{From: 77}, func() ([]impl.Part, int64) { return impl.PartsOf(guardedOne, n) })
			expect(t, "LintelClash", values(impl.LintelClash(guardedOne, n)), values(impl.LintelClash(guardedOne, n))...)
			againFront(t, "AddOpening", func() (impl.Front, int64) { return impl.AddOpening(guardedOne, open(n, n+1, 0, 1)) })
			againFront(t, "AddOpening", func() (impl.Front, int64) { return impl.AddOpening(guardedOne, open(0, 1, 0, n)) })
			for _, m := range numbers {
				expect(t, "LintelOf", values(impl.LintelOf(guardedOne, n, m)), values(impl.LintelOf(guardedOne, n, m))...)
			}
			for _, b := range bonds {
				guardedB, unchangedBond := guardedBond(b)
				again(t, "LayFront", "spoilt", func() ([]string, int64) { return impl.LayFront(guardedOne, guardedB, n) })
				unchangedBond(t, "LayFront")
			}
		}
		unchanged(t, "all functions of chapter 9 with "+outline(f))
	}
}

// again checks that a call returns the same list after what it has returned is overwritten.
func again[T any](t *testing.T, call string, other T, result func() ([]T, int64)) {
	t.Helper()
	list, code := result()
	before := slices.Clone(list)
	spoil(list, other)
	expect(t, call+" again", values(result()), before, code)
}

// againFront checks that a call returns the same front after the openings that it has returned are overwritten.
func againFront(t *testing.T, call string, result func() (impl.Front, int64)) {
	t.Helper()
	f, code := result()
	before := frontOf(f.Length, f.Courses, slices.Clone(f.Openings)...)
	spoil(f.Openings, open(77, 78, 7, 8))
	more, moreCode := result()
	expectFront(t, call+" again", more, moreCode, before, code)
}
