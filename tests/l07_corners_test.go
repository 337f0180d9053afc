package tests

import (
	"fmt"
	"math/bits"
	"regexp"
	"slices"
	"strconv"
	"strings"
	"testing"

	"loop.example/g01042/impl"
)

// houseOf returns the plan with these turns, which need not be valid.
func houseOf(turns string, sides ...int64) impl.House { return impl.House{Sides: sides, Turns: turns} }

// planOf returns the plan with a text without any check of the plan.
func planOf(text string) impl.House {
	var h impl.House
	for _, word := range strings.Fields(text) {
		last := len(word) - 1
		length, err := strconv.ParseInt(word[:last], 10, 64)
		if err != nil {
			panic(text)
		}
		h.Sides = append(h.Sides, length)
		h.Turns += word[last:]
	}
	return h
}

// stairs returns a plan of 2 * steps + 2 sides, which is valid for up to 5 steps.
func stairs(steps int) impl.House {
	whole := int64(8 * steps)
	sides := append([]int64{whole, whole}, slices.Repeat([]int64{8}, 2*steps)...)
	return houseOf("LL"+strings.Repeat("LR", steps-1)+"LL", sides...)
}

// notched returns a plan with a notch from above: with the depth 30, it touches the side below, and with a greater one it crosses it.
func notched(depth int64) impl.House {
	return houseOf("LLLRRLLL", 60, 30, 20, depth, 20, depth, 20, 30)
}

// knownHouses are plans with their areas, and whether their sides meet at corners only.
var knownHouses = []struct {
	text   string
	area   int64
	simple bool
}{
	// rectangles, from the least one to the greatest one
	{"20L 12L 20L 12L", 240, true}, {"8L 8L 8L 8L", 64, true}, {"8L 200L 8L 200L", 1600, true}, {"200L 8L 200L 8L", 1600, true}, {"200L 200L 200L 200L", 40000, true}, {"9L 11L 9L 11L", 99, true},
	// turns in both directions
	{"30L 40L 10L 15R 20L 25L", 900, true}, {"8R 8L 8L 16L 16L 8L", 192, true}, {"16L 8L 8R 8L 8L 16L", 192, true}, {"60L 30L 20L 29R 20R 29L 20L 30L", 1220, true}, {"8R 8R 8L 8L 16L 24L 16L 8L", 320, true},
	// MaxSides sides: a cross, stairs, and a plan that is only just MaxRun long
	{"8L 8R 8L 8L 8R 8L 8L 8R 8L 8L 8R 8L", 320, true}, {"40L 40L 8L 8R 8L 8R 8L 8R 8L 8R 8L 8L", 960, true}, {"200L 40L 8L 8R 8L 8R 8L 8R 8L 8R 168L 8L", 2240, true},
	// two corners at one place, the same corners with 1 quarter between them in each direction, and sides that cover one another by 1 quarter
	{"16R 16L 16L 16L 16R 16L 16L 16L", 512, false}, {"16R 16L 16L 16L 15R 16L 17L 16L", 528, true}, {"16R 16L 16L 17L 16R 15L 16L 16L", 528, true}, {"16R 16L 16L 16L 17R 16L 15L 16L", 496, false}, {"16R 16L 16L 15L 16R 17L 16L 16L", 496, false}, {"8R 8L 8L 8L 8R 8L 8L 8L", 128, false},
	// an end of a side within another one, and a part of a side that two sides have in common
	{"60L 30L 20L 30R 20R 30L 20L 30L", 1200, false}, {"8R 8R 8L 8L 8L 24L 8L 8L", 128, false}, {"8R 16R 8L 8L 8L 16R 8L 16L 16L 8L", 256, false}, {"8R 8R 8R 16L 8L 16L 24L 24L 16L 16L", 448, false},
	// sides that cross one another, with areas that are added, taken away, and just as great as one another
	{"60L 30L 20L 31R 20R 31L 20L 30L", 1180, false}, {"16R 8R 16L 8L 8L 24L 8L 8L", 64, false}, {"24R 24L 8L 8L 24R 24L 8L 8L", 128, false}, {"24R 8R 24L 8L 8L 24L 8L 8L", 0, false}, {"8R 8R 16R 24L 8L 8L 24L 16L 8L 24L", 0, false}, {"8R 8R 16L 8L 8L 16R 8L 8L 8L 8L", 64, false}, {"16R 16R 16R 16L 8L 8L 16L 16L 8L 8L", 64, false},
}

// eachHouse visits the plans of all turns and of all these lengths; they need not be valid. The plan is the same memory in each visit.
func eachHouse(sides int, lengths []int64, visit func(h impl.House)) {
	h := houseOf("", make([]int64, sides)...)
	for turns := range 1 << sides {
		h.Turns = strings.Map(func(r rune) rune { return []rune{'L', 'R'}[r-'0'] }, fmt.Sprintf("%0*b", sides, turns))
		for number := range power(len(lengths), sides) {
			for k := range h.Sides {
				h.Sides[k] = lengths[number%len(lengths)]
				number /= len(lengths)
			}
			visit(h)
		}
	}
}

func power(base, exponent int) int {
	n := 1
	for range exponent {
		n *= base
	}
	return n
}

// mixedHouses are valid plans of each number of sides and with many lengths: short ones, so that many sides meet, and long ones.
func mixedHouses() []impl.House {
	var list []impl.House
	seed := int64(7)
	next := func(n int64) int64 {
		seed = (seed*1103515245 + 12345) % (1 << 31)
		return seed / 65536 % n
	}
	for count := 0; len(list) < 1200; count++ {
		n := 4 + 2*(count%5)
		turns := []byte(strings.Repeat("L", n/2+2) + strings.Repeat("R", n/2-2))
		for k := range turns {
			m := next(int64(k) + 1)
			turns[k], turns[m] = turns[m], turns[k]
		}
		h := houseOf(string(turns))
		for range n {
			h.Sides = append(h.Sides, []int64{8 + next(5), 8 * (1 + next(4)), 8 + next(193)}[count%3])
		}
		// The last two sides bring one back, if they can.
		places := wantedPlaces(houseOf(h.Turns, h.Sides[:n-2]...))
		at := places[n-2]
		h.Sides[n-2], h.Sides[n-1] = max(at[0], -at[0]), max(at[1], -at[1])
		if n%4 != 0 && wantedPlaces(h)[n] != [2]int64{} {
			h.Sides[n-2], h.Sides[n-1] = h.Sides[n-1], h.Sides[n-2]
		}
		if wantedHouse(h) {
			list = append(list, h)
		}
	}
	return list
}

// validHouses are plans of each number of sides.
func validHouses() []impl.House {
	list := mixedHouses()
	for _, known := range knownHouses {
		list = append(list, planOf(known.text))
	}
	for steps := 1; steps <= 5; steps++ {
		list = append(list, stairs(steps))
	}
	keep := func(h impl.House) {
		if wantedHouse(h) {
			list = append(list, impl.House{Sides: slices.Clone(h.Sides), Turns: h.Turns})
		}
	}
	eachHouse(4, []int64{8, 9, 13, 200}, keep)
	eachHouse(6, []int64{8, 16, 24}, keep)
	eachHouse(8, []int64{8, 16}, keep)
	eachHouse(8, []int64{8, 24}, keep)
	return list
}

// invalidHouses have one fault each, at any place.
func invalidHouses() []impl.House {
	list := []impl.House{
		{}, {Sides: []int64{}}, {Turns: "LLLL"}, {Sides: []int64{20, 12, 20, 12}}, houseOf("", 20, 12, 20, 12),
		// fewer sides than 4, and more than MaxSides
		planOf("8L"), planOf("8L 8L"), planOf("8L 8L 8L"), planOf("16L 8L 8L"), stairs(6), stairs(7), stairs(20), houseOf(strings.Repeat("L", 13), slices.Repeat([]int64{8}, 13)...),
		// one side or one turn more or less than the other
		houseOf("LLL", 20, 12, 20, 12), houseOf("LLLLL", 20, 12, 20, 12), houseOf("LLLLR", 20, 12, 20, 12), houseOf("LLLLRL", 20, 12, 20, 12), houseOf("LLLL", 20, 12, 20), houseOf("LLLL", 20, 12, 20, 12, 8), houseOf("LLLL"), houseOf("LLLLLR", 30, 40, 10, 15, 20), houseOf("LLLLLRLLLLL", 30, 40, 10, 15, 20, 25),
		// a letter that is no turn
		houseOf("llll", 20, 12, 20, 12), houseOf("LLLl", 20, 12, 20, 12), houseOf("LLL ", 20, 12, 20, 12), houseOf("LL L", 20, 12, 20, 12), houseOf("LLLS", 20, 12, 20, 12), houseOf("LLé", 20, 12, 20, 12), houseOf("LL\xff\xff", 20, 12, 20, 12), houseOf("\x00LLL", 20, 12, 20, 12), houseOf("LLLrLL", 30, 40, 10, 15, 20, 25), houseOf("LLL|LL", 30, 40, 10, 15, 20, 25),
		// ... although there are 4 turns to the left, and one comes back if the letter is taken for one to the left, for one to the right, or for none
		planOf("8L 8L 8L 8L 8l 8l 8l 8l"), planOf("8L 8L 8L 8L 8S 8S 8S 8S"), planOf("8L 8r 8L 8L 8L 32r 8r 16r"), planOf("8L 8S 8L 8L 8L 32S 8S 16S"), planOf("20L 12L 10l 10L 12L"), planOf("20L 12L 10S 10L 12L"), planOf("20L 12L 10- 10L 12L"),
		// 4 more turns to the right, none more, 2 more, 8 more
		planOf("20R 12R 20R 12R"), planOf("30R 40R 10R 15L 20R 25R"), planOf("16L 8L 8L 16R 8R 8R"), planOf("16R 8R 8R 16L 8L 8L"), planOf("8L 8L 8L 8L 8L 8L 8L 8L"), planOf("20L 12L 20L 12R"), planOf("20R 12L 20L 12L"), planOf("8L 8L 8L 8L 8L 8L 8L 8L 8L 8L 8L 8L"), planOf("30L 40L 10L 15R 20L 25R"),
		// one comes to another place, by 1 quarter and by more
		planOf("20L 12L 21L 12L"), planOf("20L 12L 19L 12L"), planOf("20L 12L 20L 11L"), planOf("20L 12L 20L 13L"), planOf("21L 12L 20L 12L"), planOf("20L 13L 20L 12L"), planOf("20L 12L 12L 20L"), planOf("30L 40L 10L 15R 20L 26L"), planOf("30L 40L 10L 15R 19L 25L"), planOf("30L 40L 10R 15L 20L 25L"), planOf("8L 8R 8L 8L 8R 8L 8L 8R 8L 8L 8R 9L"), planOf("30L 40L 10L 15L 20L 25L"), planOf("30L 40L 10L 15L 20L"),
		// a side that is one less than LeastRun, or one more than MaxRun, and others
		planOf("7L 12L 7L 12L"), planOf("12L 7L 12L 7L"), planOf("201L 8L 201L 8L"), planOf("8L 201L 8L 201L"), planOf("0L 12L 0L 12L"), planOf("0L 0L 0L 0L"), planOf("1L 1L 1L 1L"), planOf("-20L 12L -20L 12L"), planOf("20L -12L 20L -12L"), planOf("30L 40L 10L 7R 20L 33L"), planOf("30L 40L 23L 15R 7L 25L"), planOf("208L 40L 8L 8R 8L 8R 8L 8R 8L 8R 176L 8L"),
		// many sides and turns, and turns without sides
		houseOf(strings.Repeat("L", 100000), slices.Repeat([]int64{8}, 100000)...), houseOf(strings.Repeat("L", 100000), 20, 12, 20, 12), houseOf("LLLL"+strings.Repeat("LR", 50000), slices.Repeat([]int64{8}, 100004)...), {Turns: strings.Repeat("LR", 50000) + "LLLL"}, {Sides: make([]int64, 100000)},
	}
	for _, n := range extremes {
		list = append(list, houseOf("LLLL", n, 12, n, 12), houseOf("LLLL", 20, n, 20, n), houseOf("LLLL", n, n, n, n), houseOf("LLLRLL", 30, 40, 10, n, 20, 25), houseOf("LLLRLL", 30, 40, n, 15, 30-n, 25))
	}
	return list
}

// guardedHouse returns a plan with unused capacity behind its sides, and a function that checks that all is as it was.
func guardedHouse(h impl.House) (impl.House, func(t *testing.T, call string)) {
	sides, unchanged := guarded(h.Sides, 77)
	return impl.House{Sides: sides, Turns: h.Turns}, unchanged
}

// briefly returns a text of a plan, which is short even if the plan has very many sides.
func briefly(h impl.House) string {
	if len(h.Sides) > 20 || len(h.Turns) > 20 {
		return fmt.Sprintf("%d sides and %d turns", len(h.Sides), len(h.Turns))
	}
	return fmt.Sprintf("%v %q", h.Sides, h.Turns)
}

// wantedPlaces returns the places at which all sides begin, and behind them that at which the last one ends. A way is a complex number.
func wantedPlaces(h impl.House) [][2]int64 {
	at, way := complex(0, 0), complex(1, 0)
	places := [][2]int64{{}}
	for k, length := range h.Sides {
		at += complex(float64(length), 0) * way
		places = append(places, [2]int64{int64(real(at)), int64(imag(at))})
		if h.Turns[k] == 'L' {
			way *= 1i
		} else {
			way *= -1i
		}
	}
	return places
}

// wantedHouse reports whether a plan is valid.
func wantedHouse(h impl.House) bool {
	n := len(h.Sides)
	if n < 4 || n > 12 || len(h.Turns) != n || strings.Trim(h.Turns, "LR") != "" || slices.Min(h.Sides) < 8 || slices.Max(h.Sides) > 200 {
		return false
	}
	left := len(strings.ReplaceAll(h.Turns, "R", ""))
	return left-(n-left) == 4 && wantedPlaces(h)[n] == [2]int64{}
}

// wantedSimple notes for each place all sides that have it.
func wantedSimple(h impl.House) bool {
	sidesAt := map[[2]int64]uint{}
	places := wantedPlaces(h)
	n := len(h.Sides)
	for k := range n {
		at, to := places[k], places[k+1]
		step := [2]int64{(to[0] - at[0]) / h.Sides[k], (to[1] - at[1]) / h.Sides[k]}
		for range h.Sides[k] + 1 {
			sidesAt[at] |= 1 << k
			at[0], at[1] = at[0]+step[0], at[1]+step[1]
		}
	}
	for _, sides := range sidesAt {
		if bits.OnesCount(sides) == 1 {
			continue
		}
		follow := bits.OnesCount(sides) == 2 && (sides&(sides>>1) != 0 || sides == 1|1<<(n-1))
		if !follow {
			return false
		}
	}
	return true
}

// wantedArea counts for each field between the lines of all corners how often one goes around it.
func wantedArea(h impl.House) int64 {
	places := wantedPlaces(h)
	var xs, ys []int64
	for _, p := range places {
		xs, ys = append(xs, p[0]), append(ys, p[1])
	}
	slices.Sort(xs)
	slices.Sort(ys)
	area := int64(0)
	for i := range len(xs) - 1 {
		for j := range len(ys) - 1 {
			around := int64(0)
			for k := range h.Sides {
				at, to := places[k], places[k+1]
				switch {
				case at[0] < xs[i+1]: // the side is to the left of the field, or goes along x through its column
				case at[1] <= ys[j] && to[1] >= ys[j+1]:
					around++
				case to[1] <= ys[j] && at[1] >= ys[j+1]:
					around--
				}
			}
			area += around * (xs[i+1] - xs[i]) * (ys[j+1] - ys[j])
		}
	}
	return max(area, -area)
}

// wantedAround goes from corner to corner and takes 2 quarters from the side that does not run through.
func wantedAround(h impl.House, course int64) []int64 {
	lengths := slices.Clone(h.Sides)
	for corner := range lengths {
		before, behind := corner, (corner+1)%len(lengths)
		if (int64(corner)+course)%2 == 0 {
			lengths[behind] -= 2
		} else {
			lengths[before] -= 2
		}
	}
	return lengths
}

func TestCornerConstants(t *testing.T) {
	expect(t, "constants", values(impl.MaxSides, impl.LeastRun, impl.MaxRun), 12, 8, 200)
}

// TestCornersExample is the example of chapter 7.
func TestCornersExample(t *testing.T) {
	h, ok := impl.ReadHouse("20L 12L 20L 12L")
	expect(t, "ReadHouse", values(h.Sides, h.Turns, ok), []int64{20, 12, 20, 12}, "LLLL", true)
	expect(t, "AreaInside", values(impl.AreaInside(h)), 240, impl.OK)
	expect(t, "CourseAround", values(impl.CourseAround(h, 0)), []int64{20, 8, 20, 8}, impl.OK)
}

func TestValidHouse(t *testing.T) {
	sizes := map[int]int{}
	for _, h := range validHouses() {
		guardedOne, unchanged := guardedHouse(h)
		expect(t, fmt.Sprintf("ValidHouse(%v)", h), values(impl.ValidHouse(guardedOne)), true)
		unchanged(t, fmt.Sprintf("ValidHouse(%v)", h))
		sizes[len(h.Sides)]++
	}
	expect(t, "plans of each number of sides", values(sizes[4] > 20, sizes[6] > 20, sizes[8] > 20, sizes[10] > 20, sizes[12] > 20), true, true, true, true, true)
	for _, h := range invalidHouses() {
		expect(t, fmt.Sprintf("ValidHouse(%s)", briefly(h)), values(impl.ValidHouse(h)), false)
	}
}

// TestValidHouseOfAll goes through all turns of 0 to 8 sides, odd numbers among them.
func TestValidHouseOfAll(t *testing.T) {
	right := map[int]int{}
	check := func(h impl.House) {
		want := wantedHouse(h)
		if got := impl.ValidHouse(h); got != want {
			t.Errorf("ValidHouse(%v): got %v", h, got)
		}
		if want {
			right[len(h.Sides)]++
		}
	}
	for sides := range 4 {
		eachHouse(sides, []int64{7, 8, 16, 200, 201}, check)
	}
	eachHouse(4, []int64{7, 8, 9, 199, 200, 201}, check)
	eachHouse(5, []int64{8, 16}, check)
	eachHouse(6, []int64{8, 16, 24}, check)
	eachHouse(7, []int64{8, 16}, check)
	eachHouse(8, []int64{8, 16}, check)
	expect(t, "plans with an even number of sides alone", values(right[4], right[6] > 0, right[8] > 0, len(right)), 16, true, true, 3)
}

// TestValidHouseOfChanged changes each length and each turn of valid plans.
func TestValidHouseOfChanged(t *testing.T) {
	for _, known := range knownHouses {
		for k := range planOf(known.text).Sides {
			for _, by := range []int64{-1, 1, -8, 8, 256} {
				h := planOf(known.text)
				h.Sides[k] += by
				expect(t, fmt.Sprintf("ValidHouse(%v)", h), values(impl.ValidHouse(h)), false)
			}
			for b := range 256 {
				h := planOf(known.text)
				right := h.Turns[k] == byte(b)
				h.Turns = h.Turns[:k] + string([]byte{byte(b)}) + h.Turns[k+1:]
				expect(t, fmt.Sprintf("ValidHouse(%v)", h), values(impl.ValidHouse(h)), right)
			}
		}
	}
	for n := int64(-1); n <= 300; n++ {
		right := 8 <= n && n <= 200
		expect(t, fmt.Sprintf("ValidHouse with %d", n), values(impl.ValidHouse(houseOf("LLLL", n, 9, n, 9)), impl.ValidHouse(houseOf("LLLL", 9, n, 9, n))), right, right)
	}
}

func TestSameHouse(t *testing.T) {
	list := append(validHouses()[:60], invalidHouses()[:60]...)
	for _, known := range knownHouses {
		list = append(list, planOf(known.text))
	}
	for a, one := range list {
		for b, other := range list {
			same := fmt.Sprint(one.Sides, one.Turns) == fmt.Sprint(other.Sides, other.Turns)
			other.Sides = append([]int64{}, other.Sides...)
			expect(t, fmt.Sprintf("SameHouse of %d and %d", a, b), values(impl.SameHouse(one, other)), same)
		}
	}
	none := impl.House{Sides: []int64{}}
	expect(t, "SameHouse of nil and no sides", values(impl.SameHouse(impl.House{}, none), impl.SameHouse(none, impl.House{}), impl.SameHouse(none, none), impl.SameHouse(impl.House{}, impl.House{})), true, true, true, true)
	one := planOf("30L 40L 10L 15R 20L 25L")
	others := []impl.House{
		planOf("30L 40L 10R 15L 20L 25L"), planOf("31L 40L 10L 15R 20L 25L"), planOf("40L 10L 15R 20L 25L 30L"), planOf("30L 40L 10L 15R 20L"), planOf("30L 40L 10L 15R 20L 25L 8L"), planOf("30R 40L 10L 15R 20L 25L"), planOf("30L 25L 20L 15R 10L 40L"),
		houseOf(one.Turns), houseOf("", one.Sides...), houseOf(one.Turns+"L", one.Sides...), houseOf(one.Turns[1:], one.Sides...), houseOf(one.Turns, one.Sides[1:]...), houseOf(strings.ToLower(one.Turns), one.Sides...), {},
	}
	for _, other := range others {
		expect(t, fmt.Sprintf("SameHouse of %v and %v", one, other), values(impl.SameHouse(one, other), impl.SameHouse(other, one), impl.SameHouse(other, other)), false, false, true)
	}
	for k := range one.Sides {
		for _, by := range []int64{1, -1, 1 << 32} {
			other := houseOf(one.Turns, slices.Clone(one.Sides)...)
			other.Sides[k] += by
			expect(t, fmt.Sprintf("SameHouse of %v and %v", one, other), values(impl.SameHouse(one, other), impl.SameHouse(other, one)), false, false)
		}
		other := houseOf(one.Turns[:k]+"l"+one.Turns[k+1:], one.Sides...)
		expect(t, fmt.Sprintf("SameHouse of %v and %v", one, other), values(impl.SameHouse(one, other), impl.SameHouse(other, one)), false, false)
	}
}

func TestCornerPoints(t *testing.T) {
	known := map[string][][]int64{
		"20L 12L 20L 12L":                 {{0, 0}, {20, 0}, {20, 12}, {0, 12}},
		"30L 40L 10L 15R 20L 25L":         {{0, 0}, {30, 0}, {30, 40}, {20, 40}, {20, 25}, {0, 25}},
		"8R 8L 8L 16L 16L 8L":             {{0, 0}, {8, 0}, {8, -8}, {16, -8}, {16, 8}, {0, 8}},
		"16R 16L 16L 16L 16R 16L 16L 16L": {{0, 0}, {16, 0}, {16, -16}, {32, -16}, {32, 0}, {16, 0}, {16, 16}, {0, 16}},
		"24R 8R 24L 8L 8L 24L 8L 8L":      {{0, 0}, {24, 0}, {24, -8}, {0, -8}, {0, -16}, {8, -16}, {8, 8}, {0, 8}},
		"8L 8R 8L 8L 8R 8L 8L 8R 8L 8L 8R 8L": {
			{0, 0}, {8, 0}, {8, 8}, {16, 8}, {16, 16}, {8, 16}, {8, 24}, {0, 24}, {0, 16}, {-8, 16}, {-8, 8}, {0, 8},
		},
	}
	for text, want := range known {
		expect(t, fmt.Sprintf("CornerPoints(%s)", text), values(impl.CornerPoints(planOf(text))), want, impl.OK)
	}
	for _, one := range validHouses() {
		h, unchanged := guardedHouse(one)
		var want [][]int64
		for _, p := range wantedPlaces(h)[:len(h.Sides)] {
			want = append(want, p[:])
		}
		expect(t, fmt.Sprintf("CornerPoints(%v)", h), values(impl.CornerPoints(h)), want, impl.OK)
		unchanged(t, fmt.Sprintf("CornerPoints(%v)", h))
	}
}

func TestAreaAndSimple(t *testing.T) {
	for _, known := range knownHouses {
		h := planOf(known.text)
		expect(t, fmt.Sprintf("IsSimple(%s)", known.text), values(impl.IsSimple(h)), known.simple, impl.OK)
		expect(t, fmt.Sprintf("AreaInside(%s)", known.text), values(impl.AreaInside(h)), known.area, impl.OK)
	}
}

// TestAreaAndSimpleOfAll looks at each place of all sides, and at each field between them.
func TestAreaAndSimpleOfAll(t *testing.T) {
	verdicts, areas := map[bool]int{}, map[bool]int{}
	for _, one := range validHouses() {
		h, unchanged := guardedHouse(one)
		simple, area := wantedSimple(h), wantedArea(h)
		expect(t, fmt.Sprintf("IsSimple(%v)", h), values(impl.IsSimple(h)), simple, impl.OK)
		expect(t, fmt.Sprintf("AreaInside(%v)", h), values(impl.AreaInside(h)), area, impl.OK)
		unchanged(t, fmt.Sprintf("IsSimple or AreaInside of %v", h))
		verdicts[simple]++
		areas[area == 0]++
	}
	expect(t, "there are plans of all kinds", values(verdicts[true] > 100, verdicts[false] > 100, areas[true] > 5, areas[false] > 100), true, true, true, true)
}

// TestIsSimpleAtEachEdge moves one side until it touches another one, and on.
func TestIsSimpleAtEachEdge(t *testing.T) {
	for depth := int64(8); depth <= 200; depth++ {
		expect(t, fmt.Sprintf("IsSimple of a notch of %d", depth), values(impl.IsSimple(notched(depth))), depth < 30, impl.OK)
	}
	// Two courts with a passage between them at a corner, which becomes narrower until they touch, and then overlap.
	for n := int64(8); n <= 62; n++ {
		h := houseOf("RLLLRLLL", 40, 30, 30, 30, n, 30, 70-n, 30)
		expect(t, fmt.Sprintf("the verdict on %v", h), values(impl.ValidHouse(h), wantedSimple(h)), true, n < 30)
		expect(t, fmt.Sprintf("IsSimple(%v)", h), values(impl.IsSimple(h)), n < 30, impl.OK)
	}
	for n := int64(8); n <= 102; n++ {
		h := houseOf("RLLLRLLL", 40, 70, 30, n, 30, 110-n, 40, 40)
		expect(t, fmt.Sprintf("the verdict on %v", h), values(impl.ValidHouse(h), wantedSimple(h)), true, n > 70)
		expect(t, fmt.Sprintf("IsSimple(%v)", h), values(impl.IsSimple(h)), n > 70, impl.OK)
	}
}

// TestSimpleAndAreaOfTurned: wherever one begins, the same sides meet and the area is the same.
func TestSimpleAndAreaOfTurned(t *testing.T) {
	for _, h := range validHouses() {
		simple, _ := impl.IsSimple(h)
		area, _ := impl.AreaInside(h)
		for by := range int64(len(h.Sides)) {
			x, code := impl.TurnHouse(h, by)
			call := fmt.Sprintf("TurnHouse(%v, %d) = %v", h, by, x)
			expect(t, call, values(impl.ValidHouse(x), code), true, impl.OK)
			expect(t, "IsSimple of "+call, values(impl.IsSimple(x)), simple, impl.OK)
			expect(t, "AreaInside of "+call, values(impl.AreaInside(x)), area, impl.OK)
		}
	}
}

func TestRoundHouse(t *testing.T) {
	known := map[string]int64{
		"20L 12L 20L 12L": 64, "8L 8L 8L 8L": 32, "200L 200L 200L 200L": 800, "30L 40L 10L 15R 20L 25L": 140, "60L 30L 20L 30R 20R 30L 20L 30L": 240, "24R 8R 24L 8L 8L 24L 8L 8L": 112, "8L 8R 8L 8L 8R 8L 8L 8R 8L 8L 8R 8L": 96,
	}
	for text, want := range known {
		expect(t, fmt.Sprintf("RoundHouse(%s)", text), values(impl.RoundHouse(planOf(text))), want, impl.OK)
	}
	for _, one := range validHouses() {
		h, unchanged := guardedHouse(one)
		want := int64(0)
		for _, length := range h.Sides {
			want += length
		}
		expect(t, fmt.Sprintf("RoundHouse(%v)", h), values(impl.RoundHouse(h)), want, impl.OK)
		unchanged(t, fmt.Sprintf("RoundHouse(%v)", h))
	}
}

func TestCoursesAround(t *testing.T) {
	known := []struct {
		text   string
		course int64
		want   []int64
	}{
		{"20L 12L 20L 12L", 0, []int64{20, 8, 20, 8}}, {"20L 12L 20L 12L", 1, []int64{16, 12, 16, 12}}, {"20L 12L 20L 12L", 2, []int64{20, 8, 20, 8}}, {"20L 12L 20L 12L", 999, []int64{16, 12, 16, 12}}, {"20L 12L 20L 12L", 1000, []int64{20, 8, 20, 8}},
		{"8L 8L 8L 8L", 0, []int64{8, 4, 8, 4}}, {"8L 8L 8L 8L", 1, []int64{4, 8, 4, 8}}, {"200L 8L 200L 8L", 1000, []int64{200, 4, 200, 4}}, {"200L 8L 200L 8L", 1, []int64{196, 8, 196, 8}},
		{"30L 40L 10L 15R 20L 25L", 0, []int64{30, 36, 10, 11, 20, 21}}, {"30L 40L 10L 15R 20L 25L", 1, []int64{26, 40, 6, 15, 16, 25}}, {"24R 8R 24L 8L 8L 24L 8L 8L", 0, []int64{24, 4, 24, 4, 8, 20, 8, 4}}, {"24R 8R 24L 8L 8L 24L 8L 8L", 3, []int64{20, 8, 20, 8, 4, 24, 4, 8}},
		{"40L 40L 8L 8R 8L 8R 8L 8R 8L 8R 8L 8L", 1000, []int64{40, 36, 8, 4, 8, 4, 8, 4, 8, 4, 8, 4}},
	}
	for _, k := range known {
		h := planOf(k.text)
		expect(t, fmt.Sprintf("CourseAround(%s, %d)", k.text, k.course), values(impl.CourseAround(h, k.course)), k.want, impl.OK)
		for side, want := range k.want {
			expect(t, fmt.Sprintf("SideInCourse(%s, %d, %d)", k.text, side, k.course), values(impl.SideInCourse(h, int64(side), k.course)), want, impl.OK)
		}
	}
	for _, one := range validHouses() {
		h, unchanged := guardedHouse(one)
		for _, course := range []int64{0, 1, 2, 3, 999, 1000} {
			want := wantedAround(h, course)
			expect(t, fmt.Sprintf("CourseAround(%v, %d)", h, course), values(impl.CourseAround(h, course)), want, impl.OK)
			for side, length := range want {
				if got, code := impl.SideInCourse(h, int64(side), course); got != length || code != impl.OK {
					t.Errorf("SideInCourse(%v, %d, %d): got %d %d, want %d 0", h, side, course, got, code, length)
				}
			}
		}
		unchanged(t, fmt.Sprintf("a course around %v", h))
	}
}

func TestRunsThrough(t *testing.T) {
	rectangle, stair := planOf("20L 12L 20L 12L"), stairs(5)
	known := []struct {
		h              impl.House
		corner, course int64
		want           bool
	}{
		{rectangle, 0, 0, true}, {rectangle, 1, 0, false}, {rectangle, 2, 0, true}, {rectangle, 3, 0, false}, {rectangle, 0, 1, false}, {rectangle, 1, 1, true}, {rectangle, 2, 1, false}, {rectangle, 3, 1, true},
		{rectangle, 0, 1000, true}, {rectangle, 3, 1000, false}, {rectangle, 0, 999, false}, {rectangle, 3, 999, true}, {stair, 0, 0, true}, {stair, 11, 0, false}, {stair, 11, 1, true}, {stair, 11, 1000, false}, {stair, 10, 1000, true},
	}
	for _, k := range known {
		expect(t, fmt.Sprintf("RunsThrough(%v, %d, %d)", k.h, k.corner, k.course), values(impl.RunsThrough(k.h, k.corner, k.course)), k.want, impl.OK)
	}
	for _, text := range []string{"8L 8L 8L 8L", "30L 40L 10L 15R 20L 25L", "24R 8R 24L 8L 8L 24L 8L 8L", "8L 8R 8L 8L 8R 8L 8L 8R 8L 8L 8R 8L"} {
		h, unchanged := guardedHouse(planOf(text))
		for corner := range int64(len(h.Sides)) {
			for course := range int64(1001) {
				if got, code := impl.RunsThrough(h, corner, course); got != (corner%2 == course%2) || code != impl.OK {
					t.Errorf("RunsThrough(%s, %d, %d): got %v %d", text, corner, course, got, code)
				}
			}
		}
		unchanged(t, "RunsThrough of "+text)
	}
}

// TestPromise7Corners: at each corner just one side runs through, and the other one loses 2 quarters there.
func TestPromise7Corners(t *testing.T) {
	ends := map[int]int{}
	for _, h := range validHouses() {
		n := int64(len(h.Sides))
		for _, course := range []int64{0, 1, 2, 500, 999, 1000} {
			call := fmt.Sprintf("%v in the course %d", h, course)
			through := make([]int, n) // at how many of its ends each side runs through
			for corner := range n {
				before, code := impl.RunsThrough(h, corner, course)
				if above, aboveCode := impl.RunsThrough(h, corner, (course+1)%1000); course < 999 && above == before || code != impl.OK || aboveCode != impl.OK {
					t.Errorf("%s: at the corner %d the same side runs through in the course above", call, corner)
				}
				if before {
					through[corner]++
				} else {
					through[(corner+1)%n]++
				}
			}
			lengths, code := impl.CourseAround(h, course)
			expect(t, call, values(len(lengths), code), len(h.Sides), impl.OK)
			lost := int64(0)
			for side, length := range lengths {
				if length != h.Sides[side]-2*int64(2-through[side]) {
					t.Errorf("%s: the side %d, which runs through at %d ends, has %d", call, side, through[side], length)
				}
				lost += h.Sides[side] - length
				ends[through[side]]++
			}
			expect(t, call+": what all corners take", values(lost), 2*n)
		}
	}
	// The number of sides is even, so that no side runs through at one end alone.
	expect(t, "ends at which sides run through", values(ends[0] > 0, ends[1], ends[2] > 0), true, 0, true)
}

// TestPromise7Around: around a house one comes back, wherever one begins.
func TestPromise7Around(t *testing.T) {
	for _, h := range validHouses() {
		points, code := impl.CornerPoints(h)
		expect(t, fmt.Sprintf("CornerPoints(%v)", h), values(len(points), code, points[0]), len(h.Sides), impl.OK, []int64{0, 0})
		way, around := []int64{1, 0}, int64(0)
		for k, from := range points {
			to := points[(k+1)%len(points)]
			if to[0] != from[0]+way[0]*h.Sides[k] || to[1] != from[1]+way[1]*h.Sides[k] {
				t.Errorf("CornerPoints(%v): from %v to %v", h, from, to)
			}
			around += max(to[0]-from[0], from[0]-to[0]) + max(to[1]-from[1], from[1]-to[1])
			if h.Turns[k] == 'L' {
				way = []int64{-way[1], way[0]}
			} else {
				way = []int64{way[1], -way[0]}
			}
		}
		expect(t, fmt.Sprintf("the direction behind all sides of %v", h), values(way), []int64{1, 0})
		expect(t, fmt.Sprintf("RoundHouse(%v)", h), values(impl.RoundHouse(h)), around, impl.OK)
		x := h
		for range h.Sides {
			x, code = impl.TurnHouse(x, 1)
			expect(t, fmt.Sprintf("TurnHouse to %v", x), values(impl.ValidHouse(x), code), true, impl.OK)
			expect(t, fmt.Sprintf("RoundHouse(%v)", x), values(impl.RoundHouse(x)), around, impl.OK)
		}
		expect(t, fmt.Sprintf("%v, turned all around", h), values(impl.SameHouse(x, h)), true)
	}
}

func TestQuoinLap(t *testing.T) {
	for _, one := range validHouses() {
		h, unchanged := guardedHouse(one)
		for corner := range int64(len(h.Sides)) {
			expect(t, fmt.Sprintf("QuoinLap(%v, %d, false)", h, corner), values(impl.QuoinLap(h, corner, false)), 2, impl.OK)
			expect(t, fmt.Sprintf("QuoinLap(%v, %d, true)", h, corner), values(impl.QuoinLap(h, corner, true)), 1, impl.OK)
		}
		unchanged(t, fmt.Sprintf("QuoinLap(%v)", h))
	}
	// It is how far the first perpends of two courses are from each other.
	for closer, high := range map[bool]string{false: "HSS", true: "HCSS"} {
		stretcher, _ := impl.CoursePerpends("SSS")
		header, _ := impl.CoursePerpends(high)
		place := header[0]
		if closer {
			place = header[1]
		}
		expect(t, "QuoinLap beside "+high, values(impl.QuoinLap(planOf("20L 12L 20L 12L"), 0, closer)), stretcher[0]-place, impl.OK)
	}
}

func TestTurnHouse(t *testing.T) {
	known := []struct {
		text string
		by   int64
		want string
	}{
		{"30L 40L 10L 15R 20L 25L", 0, "30L 40L 10L 15R 20L 25L"}, {"30L 40L 10L 15R 20L 25L", 1, "40L 10L 15R 20L 25L 30L"}, {"30L 40L 10L 15R 20L 25L", 2, "10L 15R 20L 25L 30L 40L"}, {"30L 40L 10L 15R 20L 25L", 3, "15R 20L 25L 30L 40L 10L"}, {"30L 40L 10L 15R 20L 25L", 5, "25L 30L 40L 10L 15R 20L"},
		{"20L 12L 20L 12L", 1, "12L 20L 12L 20L"}, {"20L 12L 20L 12L", 2, "20L 12L 20L 12L"}, {"20L 12L 20L 12L", 3, "12L 20L 12L 20L"}, {"40L 40L 8L 8R 8L 8R 8L 8R 8L 8R 8L 8L", 11, "8L 40L 40L 8L 8R 8L 8R 8L 8R 8L 8R 8L"},
	}
	for _, k := range known {
		expect(t, fmt.Sprintf("TurnHouse(%s, %d)", k.text, k.by), values(impl.TurnHouse(planOf(k.text), k.by)), planOf(k.want), impl.OK)
	}
	for _, one := range validHouses() {
		h, unchanged := guardedHouse(one)
		for by := range int64(len(h.Sides)) {
			want := houseOf("")
			for k := range h.Sides {
				from := (int(by) + k) % len(h.Sides)
				want.Sides = append(want.Sides, h.Sides[from])
				want.Turns += h.Turns[from : from+1]
			}
			expect(t, fmt.Sprintf("TurnHouse(%v, %d)", h, by), values(impl.TurnHouse(h, by)), want, impl.OK)
		}
		unchanged(t, fmt.Sprintf("TurnHouse(%v)", h))
	}
}

// TestCornerErrors: the errors of all functions in their order, each beside zero values.
func TestCornerErrors(t *testing.T) {
	var points [][]int64
	var lengths []int64
	withNumbers := func(h impl.House, side, course, code int64) {
		t.Helper()
		call := fmt.Sprintf("(%s, %d, %d)", briefly(h), side, course)
		expect(t, "RunsThrough"+call, values(impl.RunsThrough(h, side, course)), false, code)
		expect(t, "SideInCourse"+call, values(impl.SideInCourse(h, side, course)), 0, code)
	}
	withSide := func(h impl.House, side, code int64) {
		t.Helper()
		call := fmt.Sprintf("(%s, %d)", briefly(h), side)
		expect(t, "QuoinLap"+call, values(impl.QuoinLap(h, side, false)), 0, code)
		expect(t, "QuoinLap with a closer"+call, values(impl.QuoinLap(h, side, true)), 0, code)
		expect(t, "TurnHouse"+call, values(impl.TurnHouse(h, side)), impl.House{}, code)
	}
	withCourse := func(h impl.House, course, code int64) {
		t.Helper()
		expect(t, fmt.Sprintf("CourseAround(%s, %d)", briefly(h), course), values(impl.CourseAround(h, course)), lengths, code)
	}
	for _, h := range invalidHouses() {
		call := fmt.Sprintf("(%s)", briefly(h))
		expect(t, "CornerPoints"+call, values(impl.CornerPoints(h)), points, impl.ErrInvalid)
		expect(t, "IsSimple"+call, values(impl.IsSimple(h)), false, impl.ErrInvalid)
		expect(t, "AreaInside"+call, values(impl.AreaInside(h)), 0, impl.ErrInvalid)
		expect(t, "RoundHouse"+call, values(impl.RoundHouse(h)), 0, impl.ErrInvalid)
		for _, n := range append([]int64{3, 4, 12, 1000, 1001}, extremes...) {
			withNumbers(h, n, 0, impl.ErrInvalid)
			withNumbers(h, 0, n, impl.ErrInvalid)
			withNumbers(h, n, n, impl.ErrInvalid)
			withSide(h, n, impl.ErrInvalid)
			withCourse(h, n, impl.ErrInvalid)
		}
	}
	for _, text := range []string{"20L 12L 20L 12L", "30L 40L 10L 15R 20L 25L", "24R 8R 24L 8L 8L 24L 8L 8L", "40L 40L 8L 8R 8L 8R 8L 8R 8L 8R 8L 8L"} {
		h := planOf(text)
		last := int64(len(h.Sides)) - 1
		for _, side := range outside(0, last) {
			for _, course := range append([]int64{0, 1, 1000}, outside(0, 1000)...) {
				withNumbers(h, side, course, impl.ErrRange)
			}
			withSide(h, side, impl.ErrRange)
		}
		for _, course := range outside(0, 1000) {
			withNumbers(h, 0, course, impl.ErrRange)
			withNumbers(h, last, course, impl.ErrRange)
			withCourse(h, course, impl.ErrRange)
		}
	}
}

var housePattern = regexp.MustCompile(`\A[1-9][0-9]{0,2}[LR]( [1-9][0-9]{0,2}[LR]){3,11}\z`)

// wantedRead returns the valid plan with a text by a pattern of such texts.
func wantedRead(s string) (impl.House, bool) {
	if !housePattern.MatchString(s) {
		return impl.House{}, false
	}
	if h := planOf(s); wantedHouse(h) {
		return h, true
	}
	return impl.House{}, false
}

func TestHouseText(t *testing.T) {
	for _, known := range knownHouses {
		expect(t, "HouseText of "+known.text, values(impl.HouseText(planOf(known.text))), known.text)
		expect(t, "ReadHouse of "+known.text, values(impl.ReadHouse(known.text)), planOf(known.text), true)
	}
	for _, one := range validHouses() {
		h, unchanged := guardedHouse(one)
		var words []string
		for k, length := range h.Sides {
			words = append(words, fmt.Sprintf("%d%c", length, h.Turns[k]))
		}
		s := strings.Join(words, " ")
		expect(t, fmt.Sprintf("HouseText(%v)", h), values(impl.HouseText(h)), s)
		expect(t, fmt.Sprintf("ReadHouse(%q)", s), values(impl.ReadHouse(s)), one, true)
		unchanged(t, fmt.Sprintf("HouseText(%v)", h))
	}
	for _, h := range invalidHouses() {
		expect(t, fmt.Sprintf("HouseText(%s)", briefly(h)), values(impl.HouseText(h)), "")
	}
}

func TestReadHouseOfOthers(t *testing.T) {
	others := []string{
		// empty, and blanks that are too many
		"", " ", "    ", "20L  12L 20L 12L", " 20L 12L 20L 12L", "20L 12L 20L 12L ", "20L 12L 20L 12L  ", "  20L 12L 20L 12L", "20L 12L 20L  12L", "20 L 12 L 20 L 12 L", "20L 12L 20L 12 L", "20L\t12L\t20L\t12L", "20L 12L\n20L 12L", "20L 12L 20L 12L\n", "\n20L 12L 20L 12L", "20L 12L 20L\u00a012L", "20L 12L 20L 12L\x00", "20L12L20L12L", "20L 12L 20L12L",
		// a side without a turn, a turn without a side, several of them, in another order
		"20 12 20 12", "20L 12L 20L 12", "20 12L 20L 12L", "L L L L", "20L 12L 20L L", "L 12L 20L 12L", "LLLL", "20LL 12L 20L 12L", "20L 12L 20L 12LL", "20LR 12L 20L 12L", "L20 L12 L20 L12", "20L 12L 20L L12", "20L 12L 20L 12L L", "20L 12L 20L 12L 8", "20L 12L 20L 12L R", "20L2 12L 20L 12L", "20,12,20,12 LLLL", "20L, 12L, 20L, 12L", "20L+12L+20L+12L",
		// numbers with a sign, a leading zero, in another form, or too great
		"+20L 12L +20L 12L", "-20L 12L -20L 12L", "20L -12L 20L -12L", "20L +12L 20L 12L", "020L 12L 020L 12L", "20L 012L 20L 12L", "20L 12L 20L 0012L", "20.0L 12L 20L 12L", "2e1L 12L 20L 12L", "0x14L 12L 0x14L 12L", "2_0L 12L 20L 12L", "２０L 12L 20L 12L", "0L 12L 0L 12L", "00L 12L 00L 12L", "-0L 12L -0L 12L", "201L 12L 201L 12L", "7L 12L 7L 12L", "1000L 12L 1000L 12L",
		"18446744073709551636L 12L 20L 12L", "4294967316L 12L 4294967316L 12L", "999999999999999999L 12L 999999999999999999L 12L", "1000000000000000000L 12L 1000000000000000000L 12L", "9223372036854775807L 12L 9223372036854775807L 12L", "-9223372036854775808L 12L 20L 12L",
		// a letter that is no turn
		"20l 12l 20l 12l", "20L 12L 20L 12l", "20l 12L 20L 12L", "20S 12S 20S 12S", "20L 12L 20L 12M", "20L 12L 20L 12Ｌ", "20L 12L 20L 12\xff", "30L 40L 10L 15r 20L 25L", "30L 40L 10L 15\x00 20L 25L",
		// plans that are not valid
		"8L", "20L 12L", "20L 12L 20L", "20L 12L 21L 12L", "20L 12L 20L 13L", "20R 12R 20R 12R", "20L 12L 20L 12R", "30L 40L 10L 15L 20L 25L", "30R 40R 10R 15L 20R 25R", "16L 8L 8L 16R 8R 8R", "8L 8L 8L 8L 8L 8L 8L 8L", "48L 48L 8L 8R 8L 8R 8L 8R 8L 8R 8L 8R 8L 8L",
		"wall-3", "english", "215x102x65+10", "1H 1C 4H 1C",
	}
	for _, s := range others {
		expect(t, fmt.Sprintf("ReadHouse(%q)", s), values(impl.ReadHouse(s)), impl.House{}, false)
		if _, ok := wantedRead(s); ok {
			t.Errorf("%q is the text of a plan", s)
		}
	}
	for _, s := range []string{strings.Repeat("8L ", 100000), strings.Repeat("8L ", 100000) + "8L", strings.Repeat(" ", 100000), strings.Repeat("L", 100000), strings.Repeat("8", 100000) + "L", strings.Repeat("0", 100000) + "20L 12L 20L 12L", "20L 12L 20L 12" + strings.Repeat("L", 100000), strings.Repeat("20L 12L 20L 12L ", 3) + "20L"} {
		expect(t, fmt.Sprintf("ReadHouse(%.30q...)", s), values(impl.ReadHouse(s)), impl.House{}, false)
	}
}

// TestReadHouseOfEachNumber counts the lengths of sides and the number of sides up.
func TestReadHouseOfEachNumber(t *testing.T) {
	for n := -10; n <= 1010; n++ {
		for _, form := range []string{"%dL 12L %[1]dL 12L", "12L %dL 12L %[1]dL", "0%dL 12L 0%[1]dL 12L", "%dL 12L %[1]dR 12L", "%d 12L %[1]d 12L"} {
			s := fmt.Sprintf(form, n)
			h, ok := wantedRead(s)
			expect(t, fmt.Sprintf("ReadHouse(%q)", s), values(impl.ReadHouse(s)), h, ok)
		}
	}
	for steps := 1; steps <= 20; steps++ {
		h := stairs(steps)
		var words []string
		for k, length := range h.Sides {
			words = append(words, fmt.Sprintf("%d%c", length, h.Turns[k]))
		}
		got, ok := impl.ReadHouse(strings.Join(words, " "))
		expect(t, fmt.Sprintf("ReadHouse of %d steps", steps), values(impl.SameHouse(got, h), ok), steps <= 5, steps <= 5)
	}
}

// TestReadHouseOfChangedTexts changes, adds and leaves out each byte of a text.
func TestReadHouseOfChangedTexts(t *testing.T) {
	for _, text := range []string{"20L 12L 20L 12L", "30L 40L 10L 15R 20L 25L", "16R 8R 16L 8L 8L 24L 8L 8L", "9L 100L 9L 100L"} {
		right := 0
		for _, s := range changedTexts(text) {
			h, ok := wantedRead(s)
			expect(t, fmt.Sprintf("ReadHouse(%q)", s), values(impl.ReadHouse(s)), h, ok)
			if ok {
				expect(t, fmt.Sprintf("HouseText(%v)", h), values(impl.HouseText(h)), s)
				right++
			}
		}
		expect(t, fmt.Sprintf("%q itself is among them", text), values(right > 0), true)
	}
}

// TestPromise1Corners: every function of chapter 7 returns for all arguments, changes none, and keeps none of its results.
func TestPromise1Corners(t *testing.T) {
	numbers := append([]int64{3, 4, 11, 12, 1000, 1001}, extremes...)
	for _, one := range append(validHouses()[:400], append(invalidHouses(), stairs(5), notched(29), notched(30))...) {
		h, unchanged := guardedHouse(one)
		call := briefly(h)
		points, code := impl.CornerPoints(h)
		for k := range points {
			before := fmt.Sprint(points[:k], points[k+1:])
			spoil(points[k], 77)
			expect(t, "CornerPoints: other places of "+call, values(fmt.Sprint(points[:k], points[k+1:])), before)
		}
		again, againCode := impl.CornerPoints(h)
		expect(t, "CornerPoints again of "+call, values(len(again), againCode), len(points), code)
		if code == impl.OK {
			expect(t, "CornerPoints again of "+call, values(again[1]), []int64{h.Sides[0], 0})
		}
		expect(t, "ValidHouse", values(impl.ValidHouse(h)), impl.ValidHouse(h))
		expect(t, "SameHouse", values(impl.SameHouse(h, one), impl.SameHouse(one, h)), true, true)
		expect(t, "IsSimple", values(impl.IsSimple(h)), values(impl.IsSimple(h))...)
		expect(t, "AreaInside", values(impl.AreaInside(h)), values(impl.AreaInside(h))...)
		expect(t, "RoundHouse", values(impl.RoundHouse(h)), values(impl.RoundHouse(h))...)
		s := impl.HouseText(h)
		expect(t, "HouseText", values(impl.HouseText(h)), s)
		for _, n := range numbers {
			lengths, code := impl.CourseAround(h, n)
			before := slices.Clone(lengths)
			spoil(lengths, 77)
			expect(t, "CourseAround again of "+call, values(impl.CourseAround(h, n)), before, code)
			turned, code := impl.TurnHouse(h, n)
			before = slices.Clone(turned.Sides)
			spoil(turned.Sides, 77)
			expect(t, "TurnHouse again of "+call, values(impl.TurnHouse(h, n)), impl.House{Sides: before, Turns: turned.Turns}, code)
			expect(t, "QuoinLap", values(impl.QuoinLap(h, n, n > 0)), values(impl.QuoinLap(h, n, n > 0))...)
			for _, m := range numbers {
				expect(t, "RunsThrough", values(impl.RunsThrough(h, n, m)), values(impl.RunsThrough(h, n, m))...)
				expect(t, "SideInCourse", values(impl.SideInCourse(h, n, m)), values(impl.SideInCourse(h, n, m))...)
			}
		}
		unchanged(t, "a function of "+call)
		read, ok := impl.ReadHouse(s)
		before := slices.Clone(read.Sides)
		spoil(read.Sides, 77)
		expect(t, fmt.Sprintf("ReadHouse(%q) again", s), values(impl.ReadHouse(s)), impl.House{Sides: before, Turns: read.Turns}, ok)
	}
}
