package tests

import (
	"fmt"
	"math/rand/v2"
	"slices"
	"strings"
	"sync"
	"testing"
	"testing/synctest"

	"loop.example/g01042/impl"
)

// patternBy returns a pattern whose bricks are dark where a function tells it.
func patternBy(width, height int, isDark func(x, y int) bool) []string {
	var rows []string
	for y := range height {
		row := make([]byte, width)
		for x := range row {
			row[x] = '.'
			if isDark(x, y) {
				row[x] = '#'
			}
		}
		rows = append(rows, string(row))
	}
	return rows
}

// filled returns a pattern all of whose bricks are the same.
func filled(width, height int, brick string) []string {
	return slices.Repeat([]string{strings.Repeat(brick, width)}, height)
}

// isDarkAt tells of a brick of a pattern that goes on in all directions whether it is dark.
func isDarkAt(rows []string, x, y int) bool {
	width, height := len(rows[0]), len(rows)
	return rows[(y%height+height)%height][(x%width+width)%width] == '#'
}

// wantedShifted shifts a pattern as the chapter defines it, brick by brick.
func wantedShifted(rows []string, right, up int) []string {
	return patternBy(len(rows[0]), len(rows), func(x, y int) bool { return isDarkAt(rows, x-right, y-up) })
}

// wantedTurned turns a pattern brick by brick.
func wantedTurned(rows []string, kind int64) []string {
	width, height := len(rows[0]), len(rows)
	return patternBy(width, height, func(x, y int) bool {
		if kind == 0 || kind == 2 {
			x = width - 1 - x
		}
		if kind == 1 || kind == 2 {
			y = height - 1 - y
		}
		return isDarkAt(rows, x, y)
	})
}

// wantedShifts returns all shifts, each with right and up, that make a into b, in the order of the chapter.
func wantedShifts(a, b []string) [][2]int64 {
	var shifts [][2]int64
	for up := range a {
		for right := range a[0] {
			if slices.Equal(wantedShifted(a, right, up), b) {
				shifts = append(shifts, [2]int64{int64(right), int64(up)})
			}
		}
	}
	return shifts
}

// wantedPeriods returns the least divisors of the width and of the height with which a pattern repeats: all bricks that are so far apart are equal.
func wantedPeriods(rows []string) (int, int) {
	least := func(length int, repeats func(period int) bool) int {
		for period := 1; ; period++ {
			if length%period == 0 && repeats(period) {
				return period
			}
		}
	}
	all := func(keeps func(x, y int) bool) bool {
		return slices.Equal(patternBy(len(rows[0]), len(rows), keeps), filled(len(rows[0]), len(rows), "#"))
	}
	width := least(len(rows[0]), func(w int) bool {
		return all(func(x, y int) bool { return x < w || isDarkAt(rows, x, y) == isDarkAt(rows, x-w, y) })
	})
	height := least(len(rows), func(h int) bool {
		return all(func(x, y int) bool { return y < h || isDarkAt(rows, x, y) == isDarkAt(rows, x, y-h) })
	})
	return width, height
}

// wantedTile returns the first bricks of the first rows.
func wantedTile(rows []string) []string {
	width, height := wantedPeriods(rows)
	return patternBy(width, height, func(x, y int) bool { return isDarkAt(rows, x, y) })
}

// wantedDiagonal goes along each diagonal, from each of its bricks on, one row above or below at each step, until a brick is light or the pattern ends.
func wantedDiagonal(rows []string, step int) int64 {
	longest := 0
	for y := range rows {
		for x := range rows[0] {
			length := 0
			for x+length < len(rows[0]) && y+step*length >= 0 && y+step*length < len(rows) && rows[y+step*length][x+length] == '#' {
				length++
			}
			longest = max(longest, length)
		}
	}
	return int64(longest)
}

// eachPattern visits all patterns of a size.
func eachPattern(width, height int, visit func(rows []string)) {
	for bits := range 1 << (width * height) {
		visit(patternBy(width, height, func(x, y int) bool { return bits>>(y*width+x)&1 == 1 }))
	}
}

// eachSmallPattern visits all patterns of some small sizes: one row, one column, widths and heights that are prime, and such with several divisors.
func eachSmallPattern(visit func(rows []string)) {
	for _, size := range [][2]int{{1, 1}, {2, 1}, {1, 2}, {3, 1}, {1, 3}, {4, 1}, {1, 4}, {6, 1}, {1, 6}, {7, 1}, {1, 7}, {8, 1}, {1, 8}, {2, 2}, {3, 2}, {2, 3}, {4, 2}, {2, 4}, {3, 3}, {5, 2}, {2, 5}} {
		eachPattern(size[0], size[1], visit)
	}
}

// knights is a pattern with one dark brick in each row, which a shift by 2 to the right and 1 up keeps.
var knights = []string{"#....", "..#..", "....#", ".#...", "...#."}

// mixedPatterns rolls patterns of all sizes: bricks of all kinds, tiles again and again, and rows each of which is the one below it, shifted;
// in some of them one brick is changed.
func mixedPatterns() [][]string {
	r := rand.New(rand.NewPCG(14, 1))
	var list [][]string
	for range 120 {
		width, height := 1+r.IntN(24), 1+r.IntN(24)
		list = append(list, patternBy(width, height, func(x, y int) bool { return r.IntN(3) == 0 }))
		tile := patternBy(1+r.IntN(5), 1+r.IntN(5), func(x, y int) bool { return r.IntN(2) == 0 })
		across, up := 1+r.IntN(24/len(tile[0])), 1+r.IntN(24/len(tile))
		list = append(list, patternBy(len(tile[0])*across, len(tile)*up, func(x, y int) bool { return isDarkAt(tile, x, y) }))
		row, lean := patternBy(width, 1, func(x, y int) bool { return r.IntN(4) == 0 }), r.IntN(width)
		list = append(list, patternBy(width, height, func(x, y int) bool { return isDarkAt(row, x-lean*y, 0) }))
	}
	for _, rows := range list[:120] {
		atX, atY := r.IntN(len(rows[0])), r.IntN(len(rows))
		list = append(list, patternBy(len(rows[0]), len(rows), func(x, y int) bool { return isDarkAt(rows, x, y) != (x == atX && y == atY) }))
	}
	return list
}

// edgePatterns are patterns of the least and the greatest sizes, all dark ones and all light ones among them.
func edgePatterns() [][]string {
	list := [][]string{knights}
	for _, size := range [][2]int{{1, 1}, {1, 24}, {24, 1}, {24, 24}, {23, 23}, {23, 24}, {2, 24}, {24, 2}} {
		width, height := size[0], size[1]
		list = append(list, filled(width, height, "#"), filled(width, height, "."))
		for _, isDark := range []func(x, y int) bool{
			func(x, y int) bool { return x == 0 && y == 0 },
			func(x, y int) bool { return x == width-1 && y == height-1 },
			func(x, y int) bool { return x != width/2 || y != height/2 },
			func(x, y int) bool { return x == y },
			func(x, y int) bool { return (x+y)%2 == 0 },
			func(x, y int) bool { return x%12 == 0 && y%8 == 0 },
			func(x, y int) bool { return (5*x+3*y)%8 < 3 },
			func(x, y int) bool { return x*x+y*y < 40 },
		} {
			list = append(list, patternBy(width, height, isDark))
		}
	}
	return list
}

func validPatterns() [][]string { return append(edgePatterns(), mixedPatterns()...) }

// invalidPatterns are lists of rows with one fault each, and such with several ones.
func invalidPatterns() [][]string {
	list := [][]string{
		nil, {}, {""}, {"", ""}, {"#", ""}, {"", "#"}, filled(0, 24, "#"), filled(0, 25, "#"), filled(1, 25, "#"), filled(25, 1, "."), filled(24, 25, "."), filled(25, 24, "#"), filled(25, 25, "#"), filled(1, 500, "."), filled(70000, 1, "#"),
		{"#", "##"}, {"##", "#"}, {"##", "##", "#"}, {"##", "#", "##"}, {"#", "##", "##"}, {"##", "##", "###"}, {"##", "###", "##"}, {"##", "##", ""}, {"#.", "#.", ".#."},
		append(filled(24, 23, "#"), strings.Repeat("#", 25)), append(filled(24, 23, "#"), strings.Repeat("#", 23)), append([]string{strings.Repeat("#", 25)}, filled(24, 23, "#")...),
		{"x"}, {" "}, {"#x"}, {"x#"}, {"# "}, {"#\n"}, {"##", "#x", "##"}, {"##", "##", "x#"}, {"\x00"}, {"\x80"}, {"\xff"}, {"#\xc2"}, {"\u2588"}, {"\uff03"}, {"\u2024."}, {"..\xe2\x96\x88"}, {"#,."}, {"-#"}, {"\"#\""}, filled(24, 24, "x"), filled(24, 24, "\xff"),
	}
	for _, place := range []int{0, 7, 23} {
		rows := filled(24, 24, ".")
		rows[place] = rows[place][:place] + "o" + rows[place][place+1:]
		list = append(list, rows)
	}
	return list
}

// wrongFor returns numbers outside low to high: those next to it, and the ends of int64.
func wrongFor(low, high int64) []int64 {
	return append([]int64{low - 1, high + 1, low - 200, high + 200}, extremes[0], extremes[1], extremes[2], extremes[6], extremes[7], extremes[8])
}

// briefRows shortens rows that are too long to be shown.
func briefRows(rows []string) string { return fmt.Sprintf("%.200q", rows) }

func TestPatternConstants(t *testing.T) {
	expect(t, "constants", values(impl.MaxPattern), 24)
}

// TestPatternsExample is the example of chapter 14.
func TestPatternsExample(t *testing.T) {
	expect(t, "ShiftsKept", values(impl.ShiftsKept([]string{"#.", ".#"})), 2, impl.OK)
}

func TestValidPattern(t *testing.T) {
	for _, rows := range validPatterns() {
		arg, unchanged := guarded(rows, "#")
		expect(t, "ValidPattern of "+briefRows(rows), values(impl.ValidPattern(arg)), true)
		unchanged(t, "ValidPattern")
	}
	for _, rows := range invalidPatterns() {
		arg, unchanged := guarded(rows, "#")
		expect(t, "ValidPattern of "+briefRows(rows), values(impl.ValidPattern(arg)), false)
		unchanged(t, "ValidPattern")
	}
	eachSmallPattern(func(rows []string) {
		expect(t, "ValidPattern of "+briefRows(rows), values(impl.ValidPattern(rows)), true)
	})
}

// TestValidPatternAtEachEdge: all sizes, and one row that is longer or shorter than the others, whichever it is.
func TestValidPatternAtEachEdge(t *testing.T) {
	for height := range 30 {
		for width := range 30 {
			valid := height >= 1 && height <= 24 && width >= 1 && width <= 24
			for _, brick := range []string{"#", "."} {
				expect(t, fmt.Sprintf("%d rows of %d bricks", height, width), values(impl.ValidPattern(filled(width, height, brick))), valid)
			}
			for other := range height {
				if height < 2 {
					break
				}
				longer, shorter := filled(width, height, "#"), filled(width+1, height, ".")
				longer[other], shorter[other] = longer[other]+"#", shorter[other][1:]
				expect(t, fmt.Sprintf("%d rows of %d bricks, and the row %d of one more or one less", height, width, other), values(impl.ValidPattern(longer), impl.ValidPattern(shorter)), false, false)
			}
		}
	}
}

// TestValidPatternOfEachByte puts each byte at each place of a pattern, and each letter beyond the bytes of one.
func TestValidPatternOfEachByte(t *testing.T) {
	base := []string{"#.#", "..#", ".##"}
	for b := range 256 {
		for y, row := range base {
			for x := range row {
				rows := slices.Clone(base)
				rows[y] = row[:x] + string([]byte{byte(b)}) + row[x+1:]
				expect(t, "ValidPattern of "+briefRows(rows), values(impl.ValidPattern(rows)), b == '#' || b == '.')
			}
		}
	}
	// The low byte of these letters is that of a dark brick or of a light one.
	for _, letter := range []rune{0x123, 0x12e, 0x2023, 0x202e, 0x10023} {
		text := string(letter)
		expect(t, "ValidPattern of "+briefRows([]string{text}), values(impl.ValidPattern([]string{text}), impl.ValidPattern(filled(1, len(text), text))), false, false)
	}
}

func TestSamePattern(t *testing.T) {
	list := [][]string{
		{"#."}, {".#"}, {"##"}, {".."}, {"#", "."}, {".", "#"}, {"#"}, {"."}, {"#.", "#."}, {"#.", ".#"}, {"#", "#."}, {"#..", ".#."}, {"#..", "..."}, {"#..", ".##"}, {"#.", ".#", "#."}, {"#.", ".#", ".#"},
		// they need not be patterns
		nil, {""}, {"", ""}, {"x"}, {"X"}, {"#.", ""}, {"", "#."}, {"#", "..#"}, {"#..#"}, {"\xff"}, {"\xfe"}, {"\ufffd"}, filled(25, 1, "#"), filled(26, 1, "#"), filled(1, 25, "#"), filled(1, 26, "#"), filled(70000, 1, "#"),
	}
	for k, a := range list {
		for m, b := range list {
			one, oneUnchanged := guarded(a, "#")
			other, otherUnchanged := guarded(slices.Clone(b), ".")
			expect(t, fmt.Sprintf("SamePattern(%s, %s)", briefRows(a), briefRows(b)), values(impl.SamePattern(one, other)), k == m)
			oneUnchanged(t, "SamePattern")
			otherUnchanged(t, "SamePattern")
		}
	}
	expect(t, "a nil and an empty list", values(impl.SamePattern(nil, []string{}), impl.SamePattern([]string{}, nil)), true, true)
	// one brick, anywhere, is different
	for _, rows := range validPatterns()[:120] {
		for y := range rows {
			changed := patternBy(len(rows[0]), len(rows), func(x, at int) bool { return isDarkAt(rows, x, at) != (at == y && x == y%len(rows[0])) })
			expect(t, "SamePattern but for one brick", values(impl.SamePattern(rows, slices.Clone(rows)), impl.SamePattern(rows, changed), impl.SamePattern(changed, rows)), true, false, false)
		}
	}
}

func TestDarkIn(t *testing.T) {
	known := []struct {
		rows []string
		want int64
	}{
		{[]string{"#"}, 1}, {[]string{"."}, 0}, {[]string{"#.", ".#"}, 2}, {[]string{"##", ".#"}, 3}, {[]string{"..", ".."}, 0}, {[]string{"...", "#.."}, 1}, {[]string{".", "#", "#", "."}, 2}, {[]string{"####"}, 4},
		{filled(24, 24, "#"), 576}, {filled(24, 24, "."), 0}, {filled(24, 1, "#"), 24}, {filled(1, 24, "#"), 24}, {knights, 5},
	}
	for _, k := range known {
		expect(t, "DarkIn "+briefRows(k.rows), values(impl.DarkIn(k.rows)), k.want, impl.OK)
	}
	for _, rows := range validPatterns() {
		count := 0
		for _, row := range rows {
			count += len(strings.ReplaceAll(row, ".", ""))
		}
		arg, unchanged := guarded(rows, "#")
		expect(t, "DarkIn "+briefRows(rows), values(impl.DarkIn(arg)), int64(count), impl.OK)
		unchanged(t, "DarkIn")
	}
}

// TestTurnPattern: kind 0 turns the columns, kind 1 the rows, and kind 2 both.
func TestTurnPattern(t *testing.T) {
	known := [][4][]string{
		{{"##.", "#.."}, {".##", "..#"}, {"#..", "##."}, {"..#", ".##"}},
		{{"#.."}, {"..#"}, {"#.."}, {"..#"}},
		{{"#", "#", "."}, {"#", "#", "."}, {".", "#", "#"}, {".", "#", "#"}},
		{{"#"}, {"#"}, {"#"}, {"#"}},
		{{"#...", "##..", "#.#."}, {"...#", "..##", ".#.#"}, {"#.#.", "##..", "#..."}, {".#.#", "..##", "...#"}},
	}
	for _, k := range known {
		for kind := range int64(3) {
			expect(t, fmt.Sprintf("TurnPattern(%q, %d)", k[0], kind), values(impl.TurnPattern(k[0], kind)), k[kind+1], impl.OK)
		}
	}
	check := func(rows []string) {
		for kind := range int64(3) {
			arg, unchanged := guarded(rows, "#")
			expect(t, fmt.Sprintf("TurnPattern(%q, %d)", rows, kind), values(impl.TurnPattern(arg, kind)), wantedTurned(rows, kind), impl.OK)
			unchanged(t, "TurnPattern")
		}
	}
	eachSmallPattern(check)
	for _, rows := range validPatterns() {
		check(rows)
	}
}

// TestPromise15Turns: a turn twice leaves a pattern as it is, and two different ones, in either order, are the third one.
func TestPromise15Turns(t *testing.T) {
	check := func(rows []string) {
		for first := range int64(3) {
			once, code := impl.TurnPattern(rows, first)
			expect(t, "TurnPattern", values(code), impl.OK)
			for second := range int64(3) {
				wanted := rows
				if first != second {
					wanted, _ = impl.TurnPattern(rows, 3-first-second)
				}
				expect(t, fmt.Sprintf("the turn %d of the turn %d of %q", second, first, rows), values(impl.TurnPattern(once, second)), wanted, impl.OK)
			}
		}
	}
	eachSmallPattern(check)
	for _, rows := range validPatterns() {
		check(rows)
	}
}

// TestShiftPattern: the row 0 is the lowest one, so up is towards the last row; what leaves at one edge comes in at the opposite one.
func TestShiftPattern(t *testing.T) {
	known := []struct {
		rows      []string
		right, up int64
		want      []string
	}{
		{[]string{"##..", "#...", "...."}, 0, 1, []string{"....", "##..", "#..."}},
		{[]string{"##..", "#...", "...."}, 0, 2, []string{"#...", "....", "##.."}},
		{[]string{"##..", "#...", "...."}, 0, -1, []string{"#...", "....", "##.."}},
		{[]string{"##..", "#...", "...."}, 1, 0, []string{".##.", ".#..", "...."}},
		{[]string{"##..", "#...", "...."}, 3, 0, []string{"#..#", "...#", "...."}},
		{[]string{"##..", "#...", "...."}, -1, 0, []string{"#..#", "...#", "...."}},
		{[]string{"##..", "#...", "...."}, 2, 1, []string{"....", "..##", "..#."}},
		{[]string{"##..", "#...", "...."}, -2, -2, []string{"....", "..##", "..#."}},
		{[]string{"##..", "#...", "...."}, 0, 0, []string{"##..", "#...", "...."}},
		{[]string{"##..", "#...", "...."}, 4, 3, []string{"##..", "#...", "...."}},
		{[]string{"##..", "#...", "...."}, -4, -3, []string{"##..", "#...", "...."}},
		{[]string{"##..", "#...", "...."}, 100, 99, []string{"##..", "#...", "...."}},
		{[]string{"##..", "#...", "...."}, -100, -99, []string{"##..", "#...", "...."}},
		{[]string{"##..", "#...", "...."}, 5, 100, []string{"....", ".##.", ".#.."}},
		{[]string{"##..", "#...", "...."}, -7, -100, []string{".#..", "....", ".##."}},
		{[]string{"#..", ".##"}, 1, 1, []string{"#.#", ".#."}},
		{[]string{"#..", ".##"}, 100, -100, []string{".#.", "#.#"}},
		{[]string{"#....."}, 100, 100, []string{"....#."}},
		{[]string{"#....."}, -100, -100, []string{"..#..."}},
		{[]string{"#", ".", "."}, 100, 100, []string{".", "#", "."}},
		{[]string{"#", ".", "."}, -100, -100, []string{".", ".", "#"}},
		{[]string{"#"}, 100, -100, []string{"#"}},
		{[]string{"."}, -1, 1, []string{"."}},
	}
	for _, k := range known {
		expect(t, fmt.Sprintf("ShiftPattern(%q, %d, %d)", k.rows, k.right, k.up), values(impl.ShiftPattern(k.rows, k.right, k.up)), k.want, impl.OK)
	}
	for _, rows := range append(validPatterns()[:140], []string{"##.", "#..", "..."}, []string{"#...", "..##"}) {
		arg, unchanged := guarded(rows, "#")
		for _, shift := range shiftsAbout(rows) {
			expect(t, fmt.Sprintf("ShiftPattern(%q, %d, %d)", rows, shift[0], shift[1]), values(impl.ShiftPattern(arg, shift[0], shift[1])), wantedShifted(rows, int(shift[0]), int(shift[1])), impl.OK)
		}
		unchanged(t, "ShiftPattern")
	}
}

// shiftsAbout returns shifts of a pattern: by multiples of its width and its height, by those next to them, and the greatest ones.
func shiftsAbout(rows []string) [][2]int64 {
	numbersAbout := func(length int64) []int64 {
		numbers := []int64{-100, -99, -1, 0, 1, 99, 100, length / 2, -length / 2}
		for _, n := range []int64{-2 * length, -length, length, 2 * length, 100 / length * length, -100 / length * length} {
			numbers = append(numbers, n-1, n, n+1)
		}
		return slices.DeleteFunc(numbers, func(n int64) bool { return n < -100 || n > 100 })
	}
	var shifts [][2]int64
	ups := numbersAbout(int64(len(rows)))
	for k, right := range numbersAbout(int64(len(rows[0]))) {
		// not each one with each other one, but all of them
		for m := k % 4; m < len(ups); m += 4 {
			shifts = append(shifts, [2]int64{right, ups[m]})
		}
	}
	return shifts
}

// TestShiftPatternOfAll: each shift of a pattern without repeats.
func TestShiftPatternOfAll(t *testing.T) {
	rows := []string{"##...", "#..#.", "....."}
	for right := int64(-100); right <= 100; right++ {
		for up := int64(-100); up <= 100; up++ {
			got, code := impl.ShiftPattern(rows, right, up)
			if want := wantedShifted(rows, int(right), int(up)); code != impl.OK || !slices.Equal(got, want) {
				t.Errorf("ShiftPattern(%q, %d, %d): got %q %d, want %q", rows, right, up, got, code, want)
			}
		}
	}
}

// TestPromise15Shifts: each shift is undone by the opposite one, and one shift after another one is both together.
func TestPromise15Shifts(t *testing.T) {
	for _, rows := range validPatterns()[:200] {
		for k, shift := range shiftsAbout(rows) {
			moved, code := impl.ShiftPattern(rows, shift[0], shift[1])
			expect(t, "ShiftPattern", values(code), impl.OK)
			expect(t, fmt.Sprintf("%q, shifted by %v and back", rows, shift), values(impl.ShiftPattern(moved, -shift[0], -shift[1])), rows, impl.OK)
			if k%5 == 0 {
				upAlone, _ := impl.ShiftPattern(rows, 0, shift[1])
				rightAlone, _ := impl.ShiftPattern(rows, shift[0], 0)
				expect(t, "up, and then to the right", values(impl.ShiftPattern(upAlone, shift[0], 0)), moved, impl.OK)
				expect(t, "to the right, and then up", values(impl.ShiftPattern(rightAlone, 0, shift[1])), moved, impl.OK)
			}
		}
	}
}

func TestFindShift(t *testing.T) {
	known := []struct {
		a, b      []string
		right, up int64
		code      int64
	}{
		{[]string{"#"}, []string{"#"}, 0, 0, impl.OK}, {[]string{"#"}, []string{"."}, 0, 0, impl.ErrNotFound}, {[]string{"."}, []string{"#"}, 0, 0, impl.ErrNotFound},
		// one shift alone; its direction is that from a to b
		{[]string{"#..."}, []string{"..#."}, 2, 0, impl.OK}, {[]string{"#..."}, []string{"...#"}, 3, 0, impl.OK}, {[]string{"...#"}, []string{"#..."}, 1, 0, impl.OK},
		{[]string{"#", ".", "."}, []string{".", "#", "."}, 0, 1, impl.OK}, {[]string{".", "#", "."}, []string{"#", ".", "."}, 0, 2, impl.OK},
		{[]string{"##..", "#...", "...."}, []string{"..#.", "....", "..##"}, 2, 2, impl.OK}, {[]string{"..#.", "....", "..##"}, []string{"##..", "#...", "...."}, 2, 1, impl.OK},
		// several shifts: the least up, and then the least right
		{[]string{"#.#.#."}, []string{".#.#.#"}, 1, 0, impl.OK}, {[]string{"#..#.."}, []string{"..#..#"}, 2, 0, impl.OK}, {[]string{"#.#.#."}, []string{"#.#.#."}, 0, 0, impl.OK},
		{[]string{"#", ".", ".", "#", ".", "."}, []string{".", ".", "#", ".", ".", "#"}, 0, 2, impl.OK},
		{[]string{"#.", ".#"}, []string{".#", "#."}, 1, 0, impl.OK}, {[]string{"##", ".."}, []string{"..", "##"}, 0, 1, impl.OK}, {[]string{"#.", "#."}, []string{".#", ".#"}, 1, 0, impl.OK},
		{[]string{"#..", ".#.", "..#"}, []string{".#.", "..#", "#.."}, 1, 0, impl.OK}, {[]string{"#..", ".#.", "..#"}, []string{"..#", "#..", ".#."}, 2, 0, impl.OK}, {[]string{"#...", "..#."}, []string{"..#.", "#..."}, 2, 0, impl.OK}, {[]string{"#...", "..#."}, []string{"...#", ".#.."}, 3, 0, impl.OK},
		{[]string{"#...", "#..."}, []string{"...#", "...#"}, 3, 0, impl.OK}, {[]string{"#.#.", "....", "...."}, []string{"....", "....", ".#.#"}, 1, 2, impl.OK},
		{filled(24, 24, "#"), filled(24, 24, "#"), 0, 0, impl.OK}, {filled(24, 24, "#"), filled(24, 24, "."), 0, 0, impl.ErrNotFound},
		// as many dark bricks, but no shift
		{[]string{"##.."}, []string{"#.#."}, 0, 0, impl.ErrNotFound}, {[]string{"##..", "...."}, []string{"#...", "#..."}, 0, 0, impl.ErrNotFound}, {[]string{"##.#..."}, []string{"...#.##"}, 0, 0, impl.ErrNotFound}, {[]string{"#.", ".#"}, []string{"##", ".."}, 0, 0, impl.ErrNotFound}, {[]string{"#.", "#."}, []string{"##", ".."}, 0, 0, impl.ErrNotFound}, {[]string{"##.", "#..", "..."}, []string{"##.", ".#.", "..."}, 0, 0, impl.ErrNotFound},
		// other widths and heights, also with as many bricks, or with the same ones again and again
		{[]string{"#."}, []string{"#"}, 0, 0, impl.ErrClash}, {[]string{"#"}, []string{"#."}, 0, 0, impl.ErrClash}, {[]string{"#.", "#."}, []string{"#."}, 0, 0, impl.ErrClash}, {[]string{"#."}, []string{"#.", "#."}, 0, 0, impl.ErrClash}, {[]string{"#."}, []string{"#", "."}, 0, 0, impl.ErrClash}, {[]string{"#.#."}, []string{"#.", "#."}, 0, 0, impl.ErrClash}, {[]string{"###", "###"}, []string{"##", "##", "##"}, 0, 0, impl.ErrClash}, {[]string{"#.#."}, []string{"#."}, 0, 0, impl.ErrClash}, {filled(24, 23, "#"), filled(23, 24, "#"), 0, 0, impl.ErrClash}, {filled(24, 24, "#"), filled(1, 1, "."), 0, 0, impl.ErrClash},
	}
	for _, k := range known {
		expect(t, fmt.Sprintf("FindShift(%q, %q)", k.a, k.b), values(impl.FindShift(k.a, k.b)), k.right, k.up, k.code)
	}
}

// expectFound checks FindShift of two patterns of one size, and returns its code.
func expectFound(t *testing.T, a, b []string) int64 {
	t.Helper()
	right, up, code := impl.FindShift(a, b)
	var want [2]int64
	wantCode := int64(impl.ErrNotFound)
	if shifts := wantedShifts(a, b); len(shifts) > 0 {
		want, wantCode = shifts[0], impl.OK
	}
	if right != want[0] || up != want[1] || code != wantCode {
		t.Errorf("FindShift(%q, %q): got %d %d %d, want %v %d", a, b, right, up, code, want, wantCode)
	}
	return code
}

// TestFindShiftOfAll: all pairs of small patterns, and greater ones with a shifted one, a turned one, and one in which a brick is changed.
func TestFindShiftOfAll(t *testing.T) {
	codes := map[int64]int{}
	for _, size := range [][2]int{{1, 1}, {2, 1}, {1, 3}, {4, 1}, {1, 4}, {2, 2}, {5, 1}, {3, 2}, {2, 3}} {
		eachPattern(size[0], size[1], func(a []string) {
			eachPattern(size[0], size[1], func(b []string) { codes[expectFound(t, a, b)]++ })
		})
	}
	for k, rows := range validPatterns()[:240] {
		width, height := len(rows[0]), len(rows)
		if width*height > 200 && k%8 > 0 {
			continue
		}
		a, unchanged := guarded(rows, "#")
		b, otherUnchanged := guarded(wantedShifted(rows, 3*k%width, 5*k%height), "#")
		codes[expectFound(t, a, b)]++
		codes[expectFound(t, b, a)]++
		codes[expectFound(t, a, patternBy(width, height, func(x, y int) bool { return isDarkAt(rows, x, y) != (x == k%width && y == k%height) }))]++
		codes[expectFound(t, a, wantedTurned(rows, int64(k%3)))]++
		unchanged(t, "FindShift")
		otherUnchanged(t, "FindShift")
	}
	expect(t, "there are many pairs of both kinds", values(codes[impl.OK] > 500, codes[impl.ErrNotFound] > 500), true, true)
}

// TestPromise15FindShift: what is shifted is found again, by that shift or by an earlier one that makes the same of the pattern.
func TestPromise15FindShift(t *testing.T) {
	for k, rows := range validPatterns() {
		width, height := int64(len(rows[0])), int64(len(rows))
		for _, shift := range [][2]int64{{0, 0}, {int64(k) % width, int64(k) % height}, {width - 1, 0}, {0, height - 1}, {100, -100}, {-int64(k % 101), int64(k*k) % 101}} {
			moved, code := impl.ShiftPattern(rows, shift[0], shift[1])
			expect(t, "ShiftPattern", values(code), impl.OK)
			right, up, code := impl.FindShift(rows, moved)
			expect(t, fmt.Sprintf("FindShift(%q, %q)", rows, moved), values(code, right >= 0 && right < width, up >= 0 && up < height), impl.OK, true, true)
			expect(t, "the shift that is found", values(impl.ShiftPattern(rows, right, up)), moved, impl.OK)
			if shift[0] >= 0 && shift[0] < width && shift[1] >= 0 && shift[1] < height {
				expect(t, fmt.Sprintf("%d %d is not after %v", right, up, shift), values(up < shift[1] || up == shift[1] && right <= shift[0]), true)
			}
		}
	}
}

func TestShiftsKept(t *testing.T) {
	known := []struct {
		rows []string
		want int64
	}{
		{[]string{"#"}, 1}, {[]string{"."}, 1}, {[]string{"#."}, 1}, {[]string{"##"}, 2}, {[]string{"#", "#"}, 2}, {[]string{"#", "."}, 1}, {[]string{"#.#."}, 2}, {[]string{"#.#.#."}, 3}, {[]string{"##.##."}, 2}, {[]string{"#..#.#"}, 1},
		// to the right alone, up alone, in neither direction, and in both
		{[]string{"#.#.", "....", "####"}, 2}, {[]string{"##.", "...", "##.", "..."}, 2}, {[]string{"##.", "#.."}, 1}, {[]string{"#.#.", "....", "#.#.", "...."}, 4}, {[]string{"###", "...", "..."}, 3}, {[]string{"#.", "#.", "#."}, 3},
		// to the right and up, but not by either part of it alone
		{[]string{"#.", ".#"}, 2}, {[]string{"#..", ".#.", "..#"}, 3}, {[]string{"..#", ".#.", "#.."}, 3}, {[]string{"#...", "..#."}, 2}, {knights, 5}, {[]string{"#.#.", ".#.#"}, 4},
		{filled(24, 24, "#"), 576}, {filled(24, 24, "."), 576}, {filled(24, 1, "#"), 24}, {filled(1, 24, "."), 24}, {filled(23, 24, "#"), 552},
	}
	for _, k := range known {
		expect(t, fmt.Sprintf("ShiftsKept(%q)", k.rows), values(impl.ShiftsKept(k.rows)), k.want, impl.OK)
	}
	check := func(rows []string) {
		arg, unchanged := guarded(rows, "#")
		kept, code := impl.ShiftsKept(arg)
		if code != impl.OK || kept != int64(len(wantedShifts(rows, rows))) {
			t.Errorf("ShiftsKept(%q): got %d %d", rows, kept, code)
		}
		unchanged(t, "ShiftsKept")
	}
	eachSmallPattern(check)
	for k, rows := range validPatterns() {
		if len(rows)*len(rows[0]) < 200 || k%8 == 0 {
			check(rows)
		}
	}
}

// TestShiftsKeptDivide: the number of shifts divides that of the bricks, and is the same for a pattern that is shifted or turned.
func TestShiftsKeptDivide(t *testing.T) {
	counts := map[string]int{}
	for k, rows := range validPatterns() {
		kept, code := impl.ShiftsKept(rows)
		bricks := int64(len(rows) * len(rows[0]))
		expect(t, fmt.Sprintf("ShiftsKept(%q) divides the number of bricks", rows), values(kept >= 1 && bricks%kept == 0, code), true, impl.OK)
		moved, _ := impl.ShiftPattern(rows, int64(k%100), int64(k*7%100))
		turned, _ := impl.TurnPattern(rows, int64(k%3))
		expect(t, "ShiftsKept of a shifted one", values(impl.ShiftsKept(moved)), kept, impl.OK)
		expect(t, "ShiftsKept of a turned one", values(impl.ShiftsKept(turned)), kept, impl.OK)
		switch kept {
		case 1:
			counts["one"]++
		case bricks:
			counts["all"]++
		default:
			counts["some"]++
		}
	}
	expect(t, "there are patterns of all kinds", values(counts["one"] > 20, counts["some"] > 20, counts["all"] > 10), true, true, true)
}

func TestLeastTile(t *testing.T) {
	known := []struct{ rows, want []string }{
		// one brick
		{[]string{"#"}, []string{"#"}}, {[]string{"."}, []string{"."}}, {[]string{"..", "..", ".."}, []string{"."}}, {filled(24, 24, "#"), []string{"#"}}, {filled(24, 1, "."), []string{"."}}, {filled(1, 24, "#"), []string{"#"}}, {filled(23, 23, "#"), []string{"#"}},
		// one row, or a part of one
		{[]string{"##.", "##."}, []string{"##."}}, {[]string{"#.#.", "#.#.", "#.#."}, []string{"#."}}, {[]string{"#.#."}, []string{"#."}}, {[]string{"#..", "#..", "#.."}, []string{"#.."}},
		// one column, or a part of one
		{[]string{"##", "..", ".."}, []string{"#", ".", "."}}, {[]string{"##", "..", "##", ".."}, []string{"#", "."}}, {[]string{"#", ".", "#", "."}, []string{"#", "."}},
		// to the right alone, and up alone
		{[]string{"#.#.", "....", "####"}, []string{"#.", "..", "##"}}, {[]string{"##.", "...", "##.", "..."}, []string{"##.", "..."}}, {[]string{"##..##..", "#...#..."}, []string{"##..", "#..."}},
		// both
		{[]string{"#.#.", ".#.#"}, []string{"#.", ".#"}}, {[]string{"#.#.", "....", "#.#.", "...."}, []string{"#.", ".."}}, {[]string{".##.##", "......", ".##.##", "......"}, []string{".##", "..."}},
		// neither, also if a shift to the right and up keeps the pattern
		{[]string{"##.", "#.."}, []string{"##.", "#.."}}, {[]string{"#.", ".#"}, []string{"#.", ".#"}}, {[]string{"#..", ".#.", "..#"}, []string{"#..", ".#.", "..#"}}, {[]string{"#...", "..#."}, []string{"#...", "..#."}}, {knights, knights},
		// rows that repeat with different widths, and columns with different heights
		{[]string{"#.#.#.", "#..#.."}, []string{"#.#.#.", "#..#.."}}, {[]string{"##", ".#", "#.", ".#", "##", ".."}, []string{"##", ".#", "#.", ".#", "##", ".."}}, {[]string{"#.#.#.#.", "#...#..."}, []string{"#.#.", "#..."}},
		// what a shift keeps but for one brick at an end
		{[]string{"#.#.##"}, []string{"#.#.##"}}, {[]string{"#.#.", "#.#.", "#.##", "#.#."}, []string{"#.#.", "#.#.", "#.##", "#.#."}}, {[]string{"#.#.#"}, []string{"#.#.#"}},
		// widths and heights that are prime
		{[]string{"#..#..#"}, []string{"#..#..#"}}, {[]string{"#", ".", "#", ".", "#"}, []string{"#", ".", "#", ".", "#"}}, {[]string{"###", "..."}, []string{"#", "."}}, {[]string{"#.", "#.", "#."}, []string{"#."}},
	}
	for _, k := range known {
		expect(t, fmt.Sprintf("LeastTile(%q)", k.rows), values(impl.LeastTile(k.rows)), k.want, impl.OK)
	}
	check := func(rows []string) {
		arg, unchanged := guarded(rows, "#")
		tile, code := impl.LeastTile(arg)
		if want := wantedTile(rows); code != impl.OK || !slices.Equal(tile, want) {
			t.Errorf("LeastTile(%q): got %q %d, want %q", rows, tile, code, want)
		}
		unchanged(t, "LeastTile")
	}
	eachSmallPattern(check)
	for _, rows := range validPatterns() {
		check(rows)
	}
}

// TestLeastTileOfEachLength: each divisor of each width and of each height, so that lesser divisors do not serve though this one does.
func TestLeastTileOfEachLength(t *testing.T) {
	for length := 1; length <= 24; length++ {
		for period := 1; period <= length; period++ {
			want := period
			if length%period > 0 {
				// Bricks so far apart from one another do not go on at the end.
				want = length
			}
			isDark := func(n int) bool { return n%period == 0 }
			row := patternBy(length, 1, func(x, y int) bool { return isDark(x) })
			expect(t, fmt.Sprintf("LeastTile(%q)", row), values(impl.LeastTile(row)), []string{row[0][:want]}, impl.OK)
			column := patternBy(1, length, func(x, y int) bool { return isDark(y) })
			expect(t, fmt.Sprintf("LeastTile(%q)", column), values(impl.LeastTile(column)), column[:want], impl.OK)
			right := patternBy(length, 3, func(x, y int) bool { return isDark(x) && y == 1 })
			expect(t, fmt.Sprintf("LeastTile(%q)", right), values(impl.LeastTile(right)), []string{right[0][:want], right[1][:want], right[2][:want]}, impl.OK)
			up := patternBy(3, length, func(x, y int) bool { return isDark(y) && x == 1 })
			expect(t, fmt.Sprintf("LeastTile(%q)", up), values(impl.LeastTile(up)), up[:want], impl.OK)
		}
	}
}

// TestPromise15Tiles: a pattern is its least tile again and again, and no tile that is narrower or lower.
func TestPromise15Tiles(t *testing.T) {
	check := func(rows []string) {
		tile, code := impl.LeastTile(rows)
		width, height := len(rows[0]), len(rows)
		if code != impl.OK || width%len(tile[0]) > 0 || height%len(tile) > 0 {
			t.Fatalf("LeastTile(%q): got %q %d", rows, tile, code)
		}
		expect(t, fmt.Sprintf("%q again and again", tile), values(impl.RepeatTile(tile, int64(width/len(tile[0])), int64(height/len(tile)))), rows, impl.OK)
		expect(t, fmt.Sprintf("LeastTile(%q)", tile), values(impl.LeastTile(tile)), tile, impl.OK)
		for w := 1; w < len(tile[0]); w++ {
			if narrow := patternBy(width, height, func(x, y int) bool { return isDarkAt(rows, x%w, y) }); width%w == 0 && slices.Equal(narrow, rows) {
				t.Errorf("LeastTile(%q): got %q, but its width may be %d", rows, tile, w)
			}
		}
		for h := 1; h < len(tile); h++ {
			if low := patternBy(width, height, func(x, y int) bool { return isDarkAt(rows, x, y%h) }); height%h == 0 && slices.Equal(low, rows) {
				t.Errorf("LeastTile(%q): got %q, but its height may be %d", rows, tile, h)
			}
		}
	}
	eachSmallPattern(check)
	for _, rows := range validPatterns() {
		check(rows)
	}
}

func TestRepeatTile(t *testing.T) {
	known := []struct {
		tile       []string
		across, up int64
		want       []string
		code       int64
	}{
		{[]string{"#"}, 1, 1, []string{"#"}, impl.OK}, {[]string{"#"}, 2, 2, []string{"##", "##"}, impl.OK}, {[]string{"#."}, 3, 1, []string{"#.#.#."}, impl.OK}, {[]string{"#."}, 1, 3, []string{"#.", "#.", "#."}, impl.OK}, {[]string{"#", "."}, 1, 2, []string{"#", ".", "#", "."}, impl.OK}, {[]string{"##.", "#.."}, 2, 2, []string{"##.##.", "#..#..", "##.##.", "#..#.."}, impl.OK}, {[]string{"##.", "#.."}, 2, 1, []string{"##.##.", "#..#.."}, impl.OK}, {[]string{"##.", "#.."}, 1, 2, []string{"##.", "#..", "##.", "#.."}, impl.OK},
		// just as wide and as high as can be, and more
		{[]string{"#"}, 24, 24, filled(24, 24, "#"), impl.OK}, {[]string{"."}, 24, 1, filled(24, 1, "."), impl.OK}, {[]string{"."}, 1, 24, filled(1, 24, "."), impl.OK}, {[]string{"##"}, 12, 24, filled(24, 24, "#"), impl.OK}, {[]string{"##"}, 13, 24, nil, impl.ErrFull}, {[]string{"##"}, 24, 1, nil, impl.ErrFull}, {[]string{"#", "#"}, 24, 12, filled(24, 24, "#"), impl.OK}, {[]string{"#", "#"}, 24, 13, nil, impl.ErrFull}, {[]string{"#", "#"}, 1, 24, nil, impl.ErrFull}, {[]string{"##", "##"}, 13, 13, nil, impl.ErrFull},
		{filled(24, 24, "#"), 1, 1, filled(24, 24, "#"), impl.OK}, {filled(24, 24, "#"), 2, 1, nil, impl.ErrFull}, {filled(24, 24, "#"), 1, 2, nil, impl.ErrFull}, {filled(24, 24, "#"), 24, 24, nil, impl.ErrFull}, {filled(5, 7, "."), 4, 3, filled(20, 21, "."), impl.OK}, {filled(5, 7, "."), 5, 3, nil, impl.ErrFull}, {filled(5, 7, "."), 4, 4, nil, impl.ErrFull}, {filled(13, 13, "#"), 1, 1, filled(13, 13, "#"), impl.OK}, {filled(13, 1, "#"), 2, 1, nil, impl.ErrFull},
	}
	for _, k := range known {
		expect(t, fmt.Sprintf("RepeatTile(%q, %d, %d)", k.tile, k.across, k.up), values(impl.RepeatTile(k.tile, k.across, k.up)), k.want, k.code)
	}
}

// TestRepeatTileOfAll: tiles of all kinds, with all numbers; a repeated tile has the least tile of the tile, and no other number of dark bricks than it must have.
func TestRepeatTileOfAll(t *testing.T) {
	codes := map[int64]int{}
	tiles := append(validPatterns()[:100], []string{"#"}, []string{"#."}, []string{"#", "."}, []string{"##.", "#.."}, []string{"#.#.", "....", "#.#.", "...."}, []string{"#.#."}, []string{"#..", ".#.", "..#"})
	for _, tile := range tiles {
		width, height := len(tile[0]), len(tile)
		arg, unchanged := guarded(tile, "#")
		for across := range int64(26) {
			for up := range int64(26) {
				rows, code := impl.RepeatTile(arg, across, up)
				codes[code]++
				var want []string
				wantCode := int64(impl.OK)
				switch {
				case across < 1 || across > 24 || up < 1 || up > 24:
					wantCode = impl.ErrRange
				case width*int(across) > 24 || height*int(up) > 24:
					wantCode = impl.ErrFull
				default:
					want = patternBy(width*int(across), height*int(up), func(x, y int) bool { return isDarkAt(tile, x, y) })
				}
				if !slices.Equal(rows, want) || code != wantCode {
					t.Errorf("RepeatTile(%q, %d, %d): got %q %d, want %q %d", tile, across, up, rows, code, want, wantCode)
				}
				if code == impl.OK && (across*up < 9 || across == up) {
					expect(t, fmt.Sprintf("LeastTile(%q)", rows), values(impl.LeastTile(rows)), wantedTile(tile), impl.OK)
					dark, _ := impl.DarkIn(tile)
					expect(t, fmt.Sprintf("DarkIn(%q)", rows), values(impl.DarkIn(rows)), across*up*dark, impl.OK)
				}
			}
		}
		unchanged(t, "RepeatTile")
	}
	expect(t, "all of these codes occur", values(codes[impl.OK] > 100, codes[impl.ErrRange] > 100, codes[impl.ErrFull] > 100), true, true, true)
}

func TestKeepsTurn(t *testing.T) {
	known := []struct {
		rows []string
		want [3]bool
	}{
		// by the turn alone
		{[]string{"#"}, [3]bool{true, true, true}}, {filled(24, 24, "."), [3]bool{true, true, true}}, {[]string{"#.#"}, [3]bool{true, true, true}}, {[]string{"#..", "...", "#.."}, [3]bool{true, true, true}}, {[]string{"#.#", "..."}, [3]bool{true, true, true}},
		// by a turn and a shift
		{[]string{"##.."}, [3]bool{true, true, true}}, {[]string{"#.", ".#"}, [3]bool{true, true, true}}, {[]string{"#", ".", "."}, [3]bool{true, true, true}}, {[]string{"##.", "..."}, [3]bool{true, true, true}},
		// just one of the turns is a shift: of the columns, of the rows, and both
		{[]string{"###.", ".#..", "...."}, [3]bool{true, false, false}}, {[]string{"##..", "#...", "##..", "...."}, [3]bool{false, true, false}}, {[]string{"##..", ".##.", "...."}, [3]bool{false, false, true}}, {[]string{"##.#..."}, [3]bool{false, true, false}}, {[]string{"#", "#", ".", "#", ".", ".", "."}, [3]bool{true, false, false}}, {knights, [3]bool{false, false, true}}, {[]string{"#..", ".#.", "..#"}, [3]bool{false, false, true}},
		// none of them, though there are as many dark bricks in each row and in each column
		{[]string{"##..", "#...", "...."}, [3]bool{false, false, false}}, {[]string{"##.#...", "##.....", "......."}, [3]bool{false, false, false}},
	}
	for _, k := range known {
		for kind, want := range k.want {
			expect(t, fmt.Sprintf("KeepsTurn(%q, %d)", k.rows, kind), values(impl.KeepsTurn(k.rows, int64(kind))), want, impl.OK)
		}
	}
}

// TestKeepsTurnOfAll: a turn is kept just if a shift makes the turned pattern of the pattern.
func TestKeepsTurnOfAll(t *testing.T) {
	counts := map[string]int{}
	check := func(rows []string) {
		arg, unchanged := guarded(rows, "#")
		for kind := range int64(3) {
			keeps, code := impl.KeepsTurn(arg, kind)
			turned := wantedTurned(rows, kind)
			want := len(wantedShifts(rows, turned)) > 0
			counts[fmt.Sprint(kind, want, slices.Equal(rows, turned))]++
			if code != impl.OK || keeps != want {
				t.Errorf("KeepsTurn(%q, %d): got %t %d", rows, kind, keeps, code)
			}
			right, up, found := impl.FindShift(rows, turned)
			if keeps {
				expect(t, "the turned pattern", values(impl.ShiftPattern(rows, right, up)), turned, impl.OK)
			}
			expect(t, "FindShift of the turned pattern", values(found == impl.OK), keeps)
		}
		unchanged(t, "KeepsTurn")
	}
	eachSmallPattern(check)
	for _, size := range [][2]int{{4, 3}, {3, 4}} {
		eachPattern(size[0], size[1], func(rows []string) {
			if dark, _ := impl.DarkIn(rows); dark == 3 || dark == 4 {
				check(rows)
			}
		})
	}
	for k, rows := range validPatterns() {
		if len(rows)*len(rows[0]) < 150 || k%8 == 0 {
			check(rows)
		}
	}
	for kind := range 3 {
		for _, way := range []string{"true true", "true false", "false false"} {
			expect(t, fmt.Sprintf("there are patterns of the kind %d, %s", kind, way), values(counts[fmt.Sprint(kind, " ", way)] > 20), true)
		}
	}
}

// TestDarkDiagonals: the first number is that of a diagonal that rises to the right, the second one of one that falls.
func TestDarkDiagonals(t *testing.T) {
	known := []struct {
		rows       []string
		rise, fall int64
	}{
		{[]string{"."}, 0, 0}, {[]string{"..", ".."}, 0, 0}, {filled(24, 24, "."), 0, 0}, {[]string{"#"}, 1, 1}, {[]string{"###"}, 1, 1}, {[]string{"#", "#", "#"}, 1, 1}, {filled(24, 1, "#"), 1, 1}, {filled(1, 24, "#"), 1, 1},
		{[]string{"#.", ".#"}, 2, 1}, {[]string{".#", "#."}, 1, 2}, {[]string{"##", "##"}, 2, 2}, {[]string{"##", "#."}, 1, 2}, {[]string{"##", ".#"}, 2, 1}, {filled(24, 24, "#"), 24, 24}, {filled(24, 3, "#"), 3, 3}, {filled(5, 24, "#"), 5, 5},
		{[]string{"#..", ".#.", "..#"}, 3, 1}, {[]string{"..#", ".#.", "#.."}, 1, 3}, {[]string{"#.#", ".#.", "#.#"}, 3, 3},
		// dark bricks in the corners alone, and at the edges
		{[]string{"#..", "...", "..."}, 1, 1}, {[]string{"..#", "...", "..."}, 1, 1}, {[]string{"...", "...", "#.."}, 1, 1}, {[]string{"...", "...", "..#"}, 1, 1}, {[]string{".#.", "#.#", ".#."}, 2, 2}, {[]string{"...#.", "....#", "....."}, 2, 1}, {[]string{".....", "....#", "...#."}, 1, 2}, {[]string{".....", "#....", ".#..."}, 2, 1}, {[]string{".#...", "#....", "....."}, 1, 2},
		// they do not go on around an edge
		{[]string{"..#", "#..", "..."}, 1, 1}, {[]string{"#..", "..#", "..."}, 1, 1}, {[]string{".#.", "...", "#.."}, 1, 1}, {[]string{"#..", "...", ".#."}, 1, 1}, {[]string{"..#", "...", "#.."}, 1, 1}, {[]string{"#..", "...", "..#"}, 1, 1}, {[]string{"..#.", "...#", "#..."}, 2, 1}, {[]string{"#...", "...#", "..#."}, 1, 2},
		// the longest one of several, and one that is interrupted
		{[]string{"#....", ".#...", ".....", "...#.", "....#"}, 2, 1}, {[]string{"#....", ".#...", "..#..", ".....", "....#"}, 3, 1}, {[]string{"#.....", ".....#", "....#.", "...#..", ".#...."}, 1, 3}, {[]string{"#.#...", ".#.#..", "....#."}, 3, 2}, {[]string{"..#.#.", ".#...#", "#....."}, 2, 3},
		// the next column to the right, and just one row above
		{[]string{"#...", "..#.", "...."}, 1, 1}, {[]string{"#..", "...", ".#."}, 1, 1}, {knights, 1, 1}, {[]string{"#...", "#...", ".#.."}, 2, 1},
	}
	for _, k := range known {
		expect(t, fmt.Sprintf("DarkDiagonals(%q)", k.rows), values(impl.DarkDiagonals(k.rows)), k.rise, k.fall, impl.OK)
	}
}

// TestDarkDiagonalsOfAll: all patterns against walks along all diagonals; a turn of one direction exchanges both numbers, and a turn of both leaves them.
func TestDarkDiagonalsOfAll(t *testing.T) {
	check := func(rows []string) {
		arg, unchanged := guarded(rows, "#")
		rise, fall := wantedDiagonal(rows, 1), wantedDiagonal(rows, -1)
		expect(t, fmt.Sprintf("DarkDiagonals(%q)", rows), values(impl.DarkDiagonals(arg)), rise, fall, impl.OK)
		unchanged(t, "DarkDiagonals")
		for kind := range int64(3) {
			turned, _ := impl.TurnPattern(rows, kind)
			if kind == 2 {
				expect(t, fmt.Sprintf("DarkDiagonals(%q)", turned), values(impl.DarkDiagonals(turned)), rise, fall, impl.OK)
			} else {
				expect(t, fmt.Sprintf("DarkDiagonals(%q)", turned), values(impl.DarkDiagonals(turned)), fall, rise, impl.OK)
			}
		}
	}
	eachSmallPattern(check)
	for _, rows := range validPatterns() {
		check(rows)
	}
}

// TestPatternErrors: rows that are no pattern come first, whatever the numbers are; then numbers out of range; zero values stand beside both.
func TestPatternErrors(t *testing.T) {
	good := []string{"#.", ".."}
	for _, rows := range invalidPatterns() {
		name := briefRows(rows)
		arg, unchanged := guarded(rows, "#")
		expect(t, "DarkIn "+name, values(impl.DarkIn(arg)), 0, impl.ErrInvalid)
		expect(t, "ShiftsKept "+name, values(impl.ShiftsKept(arg)), 0, impl.ErrInvalid)
		expect(t, "LeastTile "+name, values(impl.LeastTile(arg)), []string(nil), impl.ErrInvalid)
		expect(t, "DarkDiagonals "+name, values(impl.DarkDiagonals(arg)), 0, 0, impl.ErrInvalid)
		for _, other := range [][]string{good, {"#"}, filled(24, 24, "#"), rows, nil, {"x"}, knights} {
			expect(t, "FindShift from "+name, values(impl.FindShift(arg, other)), 0, 0, impl.ErrInvalid)
			expect(t, "FindShift to "+name, values(impl.FindShift(other, arg)), 0, 0, impl.ErrInvalid)
		}
		for _, n := range append([]int64{2, 3, 24, 25, 100, 101}, extremes...) {
			expect(t, "TurnPattern "+name, values(impl.TurnPattern(arg, n)), []string(nil), impl.ErrInvalid)
			expect(t, "KeepsTurn "+name, values(impl.KeepsTurn(arg, n)), false, impl.ErrInvalid)
			for _, m := range []int64{1, n, 25, 101, -101} {
				expect(t, "ShiftPattern "+name, values(impl.ShiftPattern(arg, n, m)), []string(nil), impl.ErrInvalid)
				expect(t, "RepeatTile "+name, values(impl.RepeatTile(arg, n, m)), []string(nil), impl.ErrInvalid)
			}
		}
		unchanged(t, "all functions of "+name)
	}
}

// TestPatternRanges: each number at the edges of its range and beyond them; a range comes before a tile that is repeated too often.
func TestPatternRanges(t *testing.T) {
	for _, rows := range [][]string{{"#"}, {"#.", ".."}, {"##.#..."}, knights, filled(24, 24, "#")} {
		for _, kind := range wrongFor(0, 2) {
			expect(t, fmt.Sprintf("TurnPattern(%q, %d)", rows, kind), values(impl.TurnPattern(rows, kind)), []string(nil), impl.ErrRange)
			expect(t, fmt.Sprintf("KeepsTurn(%q, %d)", rows, kind), values(impl.KeepsTurn(rows, kind)), false, impl.ErrRange)
		}
		for _, wrong := range wrongFor(-100, 100) {
			for _, n := range []int64{-100, -1, 0, 1, 100, wrong, -wrong} {
				expect(t, fmt.Sprintf("ShiftPattern(%q, %d, %d)", rows, wrong, n), values(impl.ShiftPattern(rows, wrong, n)), []string(nil), impl.ErrRange)
				expect(t, fmt.Sprintf("ShiftPattern(%q, %d, %d)", rows, n, wrong), values(impl.ShiftPattern(rows, n, wrong)), []string(nil), impl.ErrRange)
			}
		}
		for _, wrong := range append(wrongFor(1, 24), -1, 100) {
			for _, n := range []int64{1, 2, 12, 24, wrong, -wrong} {
				expect(t, fmt.Sprintf("RepeatTile(%q, %d, %d)", rows, wrong, n), values(impl.RepeatTile(rows, wrong, n)), []string(nil), impl.ErrRange)
				expect(t, fmt.Sprintf("RepeatTile(%q, %d, %d)", rows, n, wrong), values(impl.RepeatTile(rows, n, wrong)), []string(nil), impl.ErrRange)
			}
		}
		for _, shift := range [][2]int64{{-100, -100}, {-100, 100}, {100, -100}, {100, 100}, {0, 0}} {
			_, code := impl.ShiftPattern(rows, shift[0], shift[1])
			expect(t, fmt.Sprintf("ShiftPattern(%q, %v)", rows, shift), values(code), impl.OK)
		}
	}
}

// answersOf calls all functions of chapter 14 that return no rows, and shows their results.
func answersOf(a, b []string, n, m int64) string {
	return fmt.Sprint(
		impl.ValidPattern(a), impl.SamePattern(a, b), values(impl.DarkIn(a)), values(impl.FindShift(a, b)), values(impl.ShiftsKept(a)),
		values(impl.KeepsTurn(a, n)), values(impl.KeepsTurn(a, m)), values(impl.DarkDiagonals(a)))
}

// TestPromise1Patterns: every function of chapter 14 returns for all arguments, modifies none of them, keeps none of its results, and returns equal results for equal arguments.
func TestPromise1Patterns(t *testing.T) {
	numbers := append([]int64{-101, -100, -3, 2, 3, 12, 24, 25, 100, 101}, extremes...)
	list := append(validPatterns()[:110], invalidPatterns()...)
	for k, rows := range list {
		a, unchanged := guarded(rows, "#")
		// the same pattern, or one of the next ones
		b, otherUnchanged := guarded(list[(k+k%3)%len(list)], ".")
		again(t, "LeastTile", "spoilt", func() ([]string, int64) { return impl.LeastTile(a) })
		for _, n := range numbers {
			again(t, "TurnPattern", "spoilt", func() ([]string, int64) { return impl.TurnPattern(a, n) })
			for _, m := range []int64{n, 0, 1, numbers[k%len(numbers)]} {
				again(t, "ShiftPattern", "spoilt", func() ([]string, int64) { return impl.ShiftPattern(a, n, m) })
				again(t, "ShiftPattern", "spoilt", func() ([]string, int64) { return impl.ShiftPattern(a, m, n) })
				again(t, "RepeatTile", "spoilt", func() ([]string, int64) { return impl.RepeatTile(a, n, m) })
				again(t, "RepeatTile", "spoilt", func() ([]string, int64) { return impl.RepeatTile(a, m, n) })
			}
		}
		expect(t, "all other functions", values(answersOf(a, b, 2, 3)), answersOf(slices.Clone(a), slices.Clone(b), 2, 3))
		unchanged(t, "all functions of "+briefRows(rows))
		otherUnchanged(t, "all functions of two patterns")
	}
}

// TestPatternsAnswerAlike: answers do not depend on which of the workers is faster, also if many calls with the same arguments run at the same time.
func TestPatternsAnswerAlike(t *testing.T) {
	for k, a := range [][]string{filled(24, 24, "#"), patternBy(24, 24, func(x, y int) bool { return (x+y)%3 == 0 }), patternBy(24, 24, func(x, y int) bool { return x == 5 && y == 7 }), knights} {
		b := wantedShifted(a, 17, 11)
		wanted := answersOf(a, b, int64(k%3), 1)
		answers := make([]string, 40)
		var callers sync.WaitGroup
		for n := range answers {
			callers.Go(func() { answers[n] = answersOf(a, b, int64(k%3), 1) })
		}
		callers.Wait()
		for _, answer := range answers {
			expect(t, "one of many calls", values(answer), wanted)
		}
	}
}

// TestShiftsLeaveNoWorkers: after a call, no goroutine waits for anything; one that did would never end, and synctest.Test would tell it.
func TestShiftsLeaveNoWorkers(t *testing.T) {
	synctest.Test(t, func(t *testing.T) {
		for _, rows := range append(validPatterns()[:100], invalidPatterns()...) {
			answersOf(rows, rows, 0, 1)
			answersOf(rows, filled(24, 24, "#"), 2, 3)
		}
	})
}
