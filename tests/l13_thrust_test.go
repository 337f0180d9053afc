package tests

import (
	"cmp"
	"fmt"
	"math/big"
	"math/rand/v2"
	"slices"
	"strconv"
	"strings"
	"testing"

	"loop.example/g01042/impl"
)

// numbersOf reads numbers that are separated by blanks.
func numbersOf(text string) []int64 {
	var list []int64
	for _, word := range strings.Fields(text) {
		n, err := strconv.ParseInt(word, 10, 64)
		if err != nil {
			panic(err)
		}
		list = append(list, n)
	}
	return list
}

// archOf returns an arch with loads, and with lower and upper heights.
func archOf(loads, low, high string) impl.Blocks {
	return impl.Blocks{Loads: numbersOf(loads), Low: numbersOf(low), High: numbersOf(high)}
}

// pinned returns an arch with the same lower and upper heights.
func pinned(loads, heights string) impl.Blocks { return archOf(loads, heights, heights) }

// copyOf returns an arch that shares no memory with b.
func copyOf(b impl.Blocks) impl.Blocks {
	return impl.Blocks{Loads: slices.Clone(b.Loads), Low: slices.Clone(b.Low), High: slices.Clone(b.High)}
}

// with returns the arch with its lower and its upper height at one joint changed.
func with(b impl.Blocks, joint int, low, high int64) impl.Blocks {
	changed := copyOf(b)
	changed.Low[joint] += low
	changed.High[joint] += high
	return changed
}

// An arch with one line of thrust, that of the example of chapter 13, and one that cannot stand.
var (
	vault = pinned("2 2", "0 3 0")
	sunk  = archOf("2 2", "0 -5 0", "0 -3 0")
)

// guardedBlocks returns an arch with unused capacity behind its lists, and a function that checks that all is as it was.
func guardedBlocks(b impl.Blocks) (impl.Blocks, func(t *testing.T, call string)) {
	loads, one := guarded(b.Loads, 77)
	low, two := guarded(b.Low, -77)
	high, three := guarded(b.High, 78)
	return impl.Blocks{Loads: loads, Low: low, High: high}, func(t *testing.T, call string) {
		t.Helper()
		one(t, call)
		two(t, call)
		three(t, call)
	}
}

// wideArch returns an arch of some blocks with the same load, and the same two heights at all joints.
func wideArch(blocks int, load, low, high int64) impl.Blocks {
	return impl.Blocks{Loads: slices.Repeat([]int64{load}, blocks), Low: slices.Repeat([]int64{low}, blocks+1), High: slices.Repeat([]int64{high}, blocks+1)}
}

// wantedMoments returns the moments as the chapter defines them.
func wantedMoments(loads []int64) []int64 {
	var moments []int64
	for k := range len(loads) + 1 {
		moment := int64(0)
		for i := range k {
			moment += loads[i] * int64(2*k-2*i-1)
		}
		moments = append(moments, moment)
	}
	return moments
}

// wantedCondition returns A and B of four joints.
func wantedCondition(b impl.Blocks, joints []int64) (int64, int64) {
	j, k, p, q := joints[0], joints[1], joints[2], joints[3]
	m := wantedMoments(b.Loads)
	return (b.Low[j]-b.High[k])*(q-p) - (b.High[q]-b.Low[p])*(j-k), (m[q]-m[p])*(j-k) - (m[j]-m[k])*(q-p)
}

// allJoints returns all joints j > k and p < q of an arch, in ascending order.
func allJoints(b impl.Blocks) [][]int64 {
	var list [][]int64
	joints := int64(len(b.Low))
	for j := range joints {
		for k := range j {
			for p := range joints {
				for q := p + 1; q < joints; q++ {
					list = append(list, []int64{j, k, p, q})
				}
			}
		}
	}
	return list
}

// proof is what all conditions of an arch tell: the greatest lower bound, which may be negative, the least upper bound, and the first joints of both.
// A ban are the first joints for which B is 0 and A positive.
type proof struct {
	low, high           *big.Rat
	lowJoints, hiJoints []int64
	ban                 []int64
}

// proofOf looks at all conditions of an arch, one after the other.
func proofOf(b impl.Blocks) proof {
	var x proof
	for _, joints := range allJoints(b) {
		a, c := wantedCondition(b, joints)
		switch {
		case c == 0 && a > 0 && x.ban == nil:
			x.ban = joints
		case c > 0:
			if limit := big.NewRat(a, c); x.low == nil || limit.Cmp(x.low) > 0 {
				x.low, x.lowJoints = limit, joints
			}
		case c < 0:
			if limit := big.NewRat(a, c); x.high == nil || limit.Cmp(x.high) < 0 {
				x.high, x.hiJoints = limit, joints
			}
		}
	}
	return x
}

// The kinds of what conditions tell.
const (
	standsFromZero = "stands, and all lesser curvatures are possible"
	standsBetween  = "stands between two curvatures"
	standsJust     = "stands with one curvature alone"
	fallsByBan     = "falls: a condition has B = 0"
	fallsFlat      = "falls: no lower bound is positive"
	fallsBelow     = "falls: the upper bound is not positive"
	fallsBetween   = "falls: the lower bound is greater than the upper one"
)

func (x proof) kind() string {
	switch {
	case x.ban != nil:
		return fallsByBan
	case x.low.Sign() <= 0 && x.high.Sign() <= 0:
		return fallsFlat
	case x.high.Sign() <= 0:
		return fallsBelow
	case x.low.Cmp(x.high) > 0:
		return fallsBetween
	case x.low.Sign() <= 0:
		return standsFromZero
	case x.low.Cmp(x.high) == 0:
		return standsJust
	}
	return standsBetween
}

func (x proof) stands() bool { return strings.HasPrefix(x.kind(), "stands") }

// whyNot returns both lists of joints that WhyNot must tell.
func (x proof) whyNot() ([]int64, []int64) {
	switch x.kind() {
	case fallsByBan:
		return nil, x.ban
	case fallsFlat, fallsBelow:
		return nil, x.hiJoints
	}
	return x.lowJoints, x.hiJoints
}

// touching is a line that touches a bound of an arch at three joints: its curvature num / den, its c, which is lean / wide, and its heights * wide.
type touching struct {
	num, den   int64
	lean, wide int64
	heights    []int64
}

// touchingOf lays a line through given heights at three joints x < y < z.
func touchingOf(m []int64, joints, heights [3]int64) touching {
	x, y, z := joints[0], joints[1], joints[2]
	den := (m[z]-m[x])*(y-x) - (m[y]-m[x])*(z-x)
	num := (heights[1]-heights[0])*(z-x) - (heights[2]-heights[0])*(y-x)
	line := touching{num: num, den: den, lean: (heights[1]-heights[0])*den + num*(m[y]-m[x]), wide: den * (y - x)}
	for k := range m {
		line.heights = append(line.heights, heights[0]*line.wide+line.lean*(int64(k)-x)-num*(m[k]-m[x])*(y-x))
	}
	return line
}

// isIn reports whether the line is within the bounds of an arch at all joints.
func (l touching) isIn(b impl.Blocks) bool {
	for k, height := range l.heights {
		if height < b.Low[k]*l.wide || height > b.High[k]*l.wide {
			return false
		}
	}
	return true
}

// compare orders lines by their curvature, the greatest one first, then by c, and then by y.
func (l touching) compare(other touching) int {
	return cmp.Or(cmp.Compare(other.num*l.den, l.num*other.den), cmp.Compare(l.lean*other.wide, other.lean*l.wide), cmp.Compare(l.heights[0]*other.wide, other.heights[0]*l.wide))
}

// lowest returns the heights over their least common denominator, and this denominator.
func (l touching) lowest() ([]int64, int64) {
	divisor := big.NewInt(l.wide)
	for _, height := range l.heights {
		divisor.GCD(nil, nil, divisor, new(big.Int).Abs(big.NewInt(height)))
	}
	var line []int64
	for _, height := range l.heights {
		line = append(line, height/divisor.Int64())
	}
	return line, l.wide / divisor.Int64()
}

// touchingLines returns the first and the last line of thrust, in the order of compare, that touch bounds of an arch at three joints; false if there is none.
// If there is a line of thrust, it can be bent as far as possible: then it touches three joints. Conditions play no part here.
func touchingLines(b impl.Blocks) (most, least touching, ok bool) {
	m := wantedMoments(b.Loads)
	joints := int64(len(m))
	sides := [2][]int64{b.Low, b.High}
	for x := range joints {
		for y := x + 1; y < joints; y++ {
			for z := y + 1; z < joints; z++ {
				for bits := range 8 {
					line := touchingOf(m, [3]int64{x, y, z}, [3]int64{sides[bits&1][x], sides[bits>>1&1][y], sides[bits>>2][z]})
					if line.num <= 0 || !line.isIn(b) {
						continue
					}
					if !ok || line.compare(most) < 0 {
						most = line
					}
					if !ok || line.compare(least) > 0 {
						least = line
					}
					ok = true
				}
			}
		}
	}
	return most, least, ok
}

// hasStraight reports whether a straight line is within the bounds of an arch: it can be moved until it touches two joints.
func hasStraight(b impl.Blocks) bool {
	for y := range b.Low {
		for x := range y {
			for _, from := range []int64{b.Low[x], b.High[x]} {
				for _, to := range []int64{b.Low[y], b.High[y]} {
					wide := int64(y - x)
					line := touching{wide: wide}
					for k := range b.Low {
						line.heights = append(line.heights, from*wide+(to-from)*int64(k-x))
					}
					if line.isIn(b) {
						return true
					}
				}
			}
		}
	}
	return false
}

// wantedIsLine takes y, c and s from the first three heights, and looks whether all heights follow from them.
func wantedIsLine(b impl.Blocks, line []int64, den int64) bool {
	m := wantedMoments(b.Loads)
	height := func(k int) *big.Rat { return big.NewRat(line[k], den) }
	first, second := new(big.Rat).Sub(height(1), height(0)), new(big.Rat).Sub(height(2), height(0))
	// c - s * m[1] is the first difference, and 2 * c - s * m[2] the second one.
	s := new(big.Rat).Add(first, first)
	s.Sub(s, second).Quo(s, wholeRat(m[2]-2*m[1]))
	c := new(big.Rat).Add(first, new(big.Rat).Mul(s, wholeRat(m[1])))
	for k := range line {
		want := new(big.Rat).Add(height(0), new(big.Rat).Mul(c, wholeRat(int64(k))))
		want.Sub(want, new(big.Rat).Mul(s, wholeRat(m[k])))
		if height(k).Cmp(want) != 0 || height(k).Cmp(wholeRat(b.Low[k])) < 0 || height(k).Cmp(wholeRat(b.High[k])) > 0 {
			return false
		}
	}
	return s.Sign() > 0
}

// expectLine checks IsLine of a line.
func expectLine(t *testing.T, b impl.Blocks, line []int64, den int64) {
	t.Helper()
	arg, unchanged := guarded(line, 77)
	got, code := impl.IsLine(b, arg, den)
	if code != impl.OK || got != wantedIsLine(b, line, den) {
		t.Errorf("IsLine(%v, %v, %d): got %t %d", b, line, den, got, code)
	}
	unchanged(t, "IsLine")
}

// wantedThrust returns 1 / (2 * s).
func wantedThrust(s *big.Rat) impl.Fraction {
	return fraction(new(big.Rat).Inv(new(big.Rat).Add(s, s)))
}

// expectArch checks all functions of an arch that is valid, and returns the kind of its proof.
func expectArch(t *testing.T, arch impl.Blocks) string {
	t.Helper()
	b, unchanged := guardedBlocks(arch)
	x := proofOf(arch)
	stands, code := impl.CanStand(b)
	if stands != x.stands() || code != impl.OK {
		t.Errorf("CanStand(%v): got %t %d, but it %s", arch, stands, code, x.kind())
	}
	if x.stands() {
		expectStanding(t, b, x)
	} else {
		expectFalling(t, b, x)
	}
	unchanged(t, fmt.Sprintf("the arch %v", arch))
	return x.kind()
}

// expectStanding checks the bounds of the curvature, the least thrust and its line against the conditions, and against all lines that touch three joints.
func expectStanding(t *testing.T, b impl.Blocks, x proof) {
	t.Helper()
	most, least, ok := touchingLines(b)
	low, high, code := impl.CurvatureBounds(b)
	wantedLow := new(big.Rat)
	if x.low.Sign() > 0 {
		wantedLow = x.low
	}
	if low != fraction(wantedLow) || high != fraction(x.high) || code != impl.OK {
		t.Errorf("CurvatureBounds(%v): got %v %v %d, want %v %v", b, low, high, code, wantedLow, x.high)
	}
	if !ok || high != fraction(big.NewRat(most.num, most.den)) {
		t.Fatalf("CurvatureBounds(%v): got %v, but lines that touch have %d/%d, %t", b, high, most.num, most.den, ok)
	}
	if straight := hasStraight(b); straight != (low.Num == 0) || !straight && low != fraction(big.NewRat(least.num, least.den)) {
		t.Errorf("CurvatureBounds(%v): got %v, but lines that touch have %d/%d", b, low, least.num, least.den)
	}
	thrust, code := impl.LeastThrust(b)
	if thrust != wantedThrust(x.high) || code != impl.OK {
		t.Errorf("LeastThrust(%v): got %v %d", b, thrust, code)
	}
	line, den, code := impl.LineOfThrust(b)
	wantedLine, wantedDen := most.lowest()
	if !slices.Equal(line, wantedLine) || den != wantedDen || code != impl.OK {
		t.Errorf("LineOfThrust(%v): got %v %d %d, want %v %d", b, line, den, code, wantedLine, wantedDen)
	}
	is, code := impl.IsLine(b, line, den)
	if !is || code != impl.OK {
		t.Errorf("IsLine(%v, %v, %d): got %t %d", b, line, den, is, code)
	}
	one, other, code := impl.WhyNot(b)
	if len(one) > 0 || len(other) > 0 || code != impl.ErrState {
		t.Errorf("WhyNot(%v): got %v %v %d, but it stands", b, one, other, code)
	}
}

// expectFalling checks that no line is told, and which joints forbid one.
func expectFalling(t *testing.T, b impl.Blocks, x proof) {
	t.Helper()
	if _, _, ok := touchingLines(b); ok {
		t.Errorf("%v has a line that touches", b)
	}
	expect(t, "CurvatureBounds", values(impl.CurvatureBounds(b)), impl.Fraction{}, impl.Fraction{}, impl.ErrCracked)
	expect(t, "LeastThrust", values(impl.LeastThrust(b)), impl.Fraction{}, impl.ErrCracked)
	line, den, code := impl.LineOfThrust(b)
	expect(t, "LineOfThrust", values(len(line), den, code), 0, 0, impl.ErrCracked)
	low, high, code := impl.WhyNot(b)
	wantedLow, wantedHigh := x.whyNot()
	if !slices.Equal(low, wantedLow) || !slices.Equal(high, wantedHigh) || code != impl.OK {
		t.Errorf("WhyNot(%v): got %v %v %d, want %v %v", b, low, high, code, wantedLow, wantedHigh)
	}
	proves, code := impl.ProvesFall(b, low, high)
	if !proves || code != impl.OK {
		t.Errorf("ProvesFall(%v, %v, %v): got %t %d", b, low, high, proves, code)
	}
}

// roll returns a random generator that rolls the same numbers each time.
func roll(seed uint64) *rand.Rand { return rand.New(rand.NewPCG(13, seed)) }

// between rolls a number from low to high.
func between(r *rand.Rand, low, high int64) int64 { return low + r.Int64N(high-low+1) }

// clampHeight moves a number to the nearest possible height.
func clampHeight(n int64) int64 { return min(max(n, -1000), 1000) }

// rolledLoads rolls some loads.
func rolledLoads(r *rand.Rand, blocks int) []int64 {
	most := []int64{1, 2, 20, 1000}[r.IntN(4)]
	var loads []int64
	for range blocks {
		loads = append(loads, between(r, 1, most))
	}
	return loads
}

// rolledCurve rolls an arch about a line: its heights are up to some numbers away from it.
func rolledCurve(r *rand.Rand, blocks int) impl.Blocks {
	b := impl.Blocks{Loads: rolledLoads(r, blocks)}
	m := wantedMoments(b.Loads)
	steep, lean, first := between(r, -100, 2000), between(r, -50, 50), between(r, -100, 100)
	above, below := between(r, 0, 20), between(r, 0, 20)
	for k, moment := range m {
		// Without steep, the line is y + lean * k; with it, it rises in the middle.
		height := first + lean*int64(k) + steep*(m[blocks]*int64(k)/int64(blocks)-moment)/m[blocks]
		b.Low = append(b.Low, clampHeight(height-between(r, 0, below)))
		b.High = append(b.High, clampHeight(height+between(r, 0, above)))
	}
	return b
}

// rolledHeights rolls an arch with any heights.
func rolledHeights(r *rand.Rand, blocks int) impl.Blocks {
	b := impl.Blocks{Loads: rolledLoads(r, blocks)}
	wide, high := []int64{3, 50, 1000}[r.IntN(3)], []int64{4, 100, 1500}[r.IntN(3)]
	for range blocks + 1 {
		low := between(r, -wide, wide)
		b.Low = append(b.Low, low)
		b.High = append(b.High, clampHeight(low+between(r, 0, high)))
	}
	return b
}

// rolledPinned rolls an arch that has one curvature, or misses it: the same heights at all joints or at most of them, on a line.
func rolledPinned(r *rand.Rand, blocks int) impl.Blocks {
	b := impl.Blocks{}
	for range blocks {
		b.Loads = append(b.Loads, between(r, 1, 4))
	}
	lean, first := between(r, -30, 90), between(r, -100, 100)
	for k, moment := range wantedMoments(b.Loads) {
		height := clampHeight(first + lean*int64(k) - moment)
		if blocks > 4 && r.IntN(3) == 0 {
			b.Low, b.High = append(b.Low, clampHeight(height-between(r, 0, 20))), append(b.High, clampHeight(height+between(r, 0, 20)))
		} else {
			b.Low, b.High = append(b.Low, height), append(b.High, height)
		}
	}
	if r.IntN(2) == 0 {
		k, by := r.IntN(blocks+1), 2*r.Int64N(2)-1
		b.Low[k], b.High[k] = clampHeight(b.Low[k]+by), clampHeight(b.High[k]+by)
	}
	return b
}

// mixedArches are arches of all numbers of blocks.
func mixedArches() []impl.Blocks {
	var list []impl.Blocks
	r := roll(1)
	for k := range 60 {
		for blocks := 2; blocks <= impl.MaxBlocks; blocks++ {
			if k%3 > 0 || blocks < 7 {
				list = append(list, []impl.Blocks{rolledCurve(r, blocks), rolledHeights(r, blocks), rolledPinned(r, blocks)}[k%3])
			}
		}
	}
	return list
}

// edgeArches are arches whose numbers are at their limits.
func edgeArches() []impl.Blocks {
	list := []impl.Blocks{
		pinned("1 1", "-1000 1000 -1000"), pinned("1000 1000", "-1000 1000 -1000"), pinned("999 1000", "-1000 1000 -1000"), pinned("1 1000", "-1000 1000 -1000"), pinned("1000 1", "1000 1000 -1000"),
		pinned("1000 1000", "0 0 -1"), pinned("1000 1000", "1000 999 1000"), pinned("1000 1000", "1000 1000 1000"), pinned("1 1", "-1000 -1000 -1000"), pinned("1 1", "1000 -1000 1000"), pinned("997 1000", "-1000 999 -1000"),
		archOf("1 1 1", "-1000 1000 -1000 -1000", "-1000 1000 1000 1000"), archOf("1000 999 1000 1", "-1000 -1000 1000 -1000 -1000", "-1000 1000 1000 1000 -1000"),
		archOf("1000 1 1000 1 1000 1 1000 1 1000 1", "-1000 0 -1000 0 -1000 0 -1000 0 -1000 0 -1000", "-1000 1000 1000 1000 1000 1000 1000 1000 1000 1000 -1000"),
		archOf("61 626 853 813 841 864 399 869 985 700", "-847 -1000 -1000 -1000 -1000 -1000 -1000 -1000 -1000 -1000 -509", "-847 1000 1000 1000 1000 1000 1000 1000 1000 970 -509"),
		archOf("997 991 983 977 971 967 953 947 941 937", "-999 -998 -1000 -1000 -1000 -1000 -1000 -1000 -1000 -1000 -997", "-997 1000 1000 1000 1000 1000 1000 1000 1000 1000 -995"),
	}
	for _, blocks := range []int{2, 3, 9, 10} {
		for _, load := range []int64{1, 1000} {
			list = append(list, wideArch(blocks, load, -1000, 1000), wideArch(blocks, load, 0, 0), wideArch(blocks, load, -1000, -1000), wideArch(blocks, load, 1000, 1000), wideArch(blocks, load, 999, 1000), wideArch(blocks, load, -1000, -999), wideArch(blocks, load, -1000, 0))
		}
	}
	return list
}

// validArches are arches of all kinds.
func validArches() []impl.Blocks {
	list := append(edgeArches(), vault, sunk)
	return append(list, mixedArches()[:200]...)
}

// invalidArches have one fault each, or several ones.
func invalidArches() []impl.Blocks {
	list := []impl.Blocks{
		{}, {Loads: []int64{}, Low: []int64{}, High: []int64{}}, {Loads: numbersOf("2 2")}, {Low: numbersOf("0 0 0"), High: numbersOf("0 0 0")}, {Loads: numbersOf("2 2"), Low: numbersOf("0 3 0")}, {Loads: numbersOf("2 2"), High: numbersOf("0 3 0")},
		// no blocks, one block, and one more than MaxBlocks
		pinned("", "0"), pinned("", ""), pinned("5", "0 0"), pinned("5", "0 3 0"), wideArch(1, 1, -5, 5), wideArch(11, 1, -5, 5), wideArch(12, 1, 0, 0), wideArch(1000, 1, -5, 5), wideArch(11, 1000, -1000, 1000),
		// lists that are too short or too long
		archOf("2 2", "0 3", "0 3 0"), archOf("2 2", "0 3 0", "0 3"), archOf("2 2", "0 3", "0 3"), archOf("2 2", "0 3 0 0", "0 3 0"), archOf("2 2", "0 3 0", "0 3 0 0"), archOf("2 2", "0 3 0 0", "0 3 0 0"), archOf("2 2 2", "0 3 0", "0 3 0"), archOf("2", "0 3 0", "0 3 0"), archOf("2 2", "", "0 3 0"), archOf("2 2", "0 3 0", ""), archOf("2 2", "", ""),
	}
	for _, b := range []impl.Blocks{vault, sunk, wideArch(3, 7, -1, 1), wideArch(10, 1000, -1000, 1000), wideArch(10, 1, 0, 0)} {
		for k := range b.Loads {
			for _, load := range append(outside(1, 1000), 0, -1, 1001) {
				changed := copyOf(b)
				changed.Loads[k] = load
				list = append(list, changed)
			}
		}
		for k := range b.Low {
			// Low that is one more than High
			list = append(list, with(b, k, b.High[k]-b.Low[k]+1, 0), with(b, k, 0, b.Low[k]-b.High[k]-1))
			for _, height := range append(outside(-1000, 1000), -1001, 1001) {
				list = append(list, with(b, k, height-b.Low[k], 0), with(b, k, 0, height-b.High[k]), with(b, k, height-b.Low[k], height-b.High[k]))
			}
		}
	}
	return list
}

func TestThrustConstants(t *testing.T) {
	expect(t, "constants", values(impl.MaxBlocks), 10)
}

// TestThrustExample is the example of chapter 13.
func TestThrustExample(t *testing.T) {
	three := impl.Fraction{Num: 3, Den: 2}
	expect(t, "CanStand", values(impl.CanStand(vault)), true, impl.OK)
	expect(t, "CurvatureBounds", values(impl.CurvatureBounds(vault)), three, three, impl.OK)
	expect(t, "LeastThrust", values(impl.LeastThrust(vault)), impl.Fraction{Num: 1, Den: 3}, impl.OK)
	expect(t, "LineOfThrust", values(impl.LineOfThrust(vault)), []int64{0, 3, 0}, 1, impl.OK)
}

func TestValidBlocks(t *testing.T) {
	for _, arch := range validArches() {
		b, unchanged := guardedBlocks(arch)
		expect(t, fmt.Sprintf("ValidBlocks(%v)", arch), values(impl.ValidBlocks(b)), true)
		unchanged(t, "ValidBlocks")
	}
	for _, arch := range invalidArches() {
		b, unchanged := guardedBlocks(arch)
		expect(t, fmt.Sprintf("ValidBlocks(%v)", arch), values(impl.ValidBlocks(b)), false)
		unchanged(t, "ValidBlocks")
	}
}

// TestValidBlocksAtEachEdge moves one number at a time over its limits, and takes all lengths of the lists.
func TestValidBlocksAtEachEdge(t *testing.T) {
	for _, blocks := range []int{2, 5, 10} {
		base := wideArch(blocks, 5, -3, 4)
		for n := int64(-1100); n <= 1100; n++ {
			for k := range blocks + 1 {
				low, high := with(base, k, n+3, 0), with(base, k, 0, n-4)
				got := []bool{impl.ValidBlocks(low), impl.ValidBlocks(high), impl.ValidBlocks(with(base, k, n+3, n-4))}
				want := []bool{n >= -1000 && n <= 4, n >= -3 && n <= 1000, n >= -1000 && n <= 1000}
				if k < blocks {
					loaded := copyOf(base)
					loaded.Loads[k] = n
					got, want = append(got, impl.ValidBlocks(loaded)), append(want, n >= 1 && n <= 1000)
				}
				if !slices.Equal(got, want) {
					t.Errorf("%d blocks with %d at the joint %d: got %v, want %v", blocks, n, k, got, want)
				}
			}
		}
	}
	for loads := range 15 {
		for low := range 15 {
			for high := range 15 {
				b := impl.Blocks{Loads: slices.Repeat([]int64{1}, loads), Low: make([]int64, low), High: make([]int64, high)}
				expect(t, fmt.Sprintf("ValidBlocks with %d, %d and %d numbers", loads, low, high), values(impl.ValidBlocks(b)), loads >= 2 && loads <= 10 && low == loads+1 && high == loads+1)
			}
		}
	}
}

func TestMomentsOf(t *testing.T) {
	known := map[string]string{
		"2 2": "0 2 8", "1 1": "0 1 4", "1 1 1 1": "0 1 4 9 16", "1 2 4": "0 1 5 15", "4 2 1": "0 4 14 27", "1 1000": "0 1 1003", "1000 1": "0 1000 3001", "1000 1000": "0 1000 4000",
		"1 1 1 1 1 1 1 1 1 1": "0 1 4 9 16 25 36 49 64 81 100", "1000 1000 1000 1000 1000 1000 1000 1000 1000 1000": "0 1000 4000 9000 16000 25000 36000 49000 64000 81000 100000",
	}
	for loads, want := range known {
		joints := len(numbersOf(loads)) + 1
		b := impl.Blocks{Loads: numbersOf(loads), Low: make([]int64, joints), High: make([]int64, joints)}
		expect(t, fmt.Sprintf("MomentsOf the loads %s", loads), values(impl.MomentsOf(b)), numbersOf(want), impl.OK)
	}
	// Heights play no part; an arch that cannot stand has moments as well.
	for _, arch := range validArches() {
		b, unchanged := guardedBlocks(arch)
		moments, code := impl.MomentsOf(b)
		expect(t, fmt.Sprintf("MomentsOf(%v)", arch), values(moments, code, moments[0]), wantedMoments(arch.Loads), impl.OK, 0)
		spoil(moments, 77)
		unchanged(t, "MomentsOf")
	}
}

// TestJustStanding: arches with one curvature alone, which fall if a height is one less or one more.
func TestJustStanding(t *testing.T) {
	one, two := impl.Fraction{Num: 1, Den: 1}, impl.Fraction{Num: 2, Den: 1}
	expectJust := func(b impl.Blocks, s impl.Fraction) {
		t.Helper()
		expect(t, fmt.Sprintf("CurvatureBounds(%v)", b), values(impl.CurvatureBounds(b)), s, s, impl.OK)
		expect(t, fmt.Sprintf("the kind of %v", b), values(expectArch(t, b)), standsJust)
	}
	expectMoved := func(b impl.Blocks, want bool) {
		t.Helper()
		expect(t, fmt.Sprintf("CanStand(%v)", b), values(impl.CanStand(b)), want, impl.OK)
		expectArch(t, b)
	}
	for _, k := range []struct {
		b impl.Blocks
		s impl.Fraction
	}{
		{pinned("1 1 1 1", "0 3 4 3 0"), one}, {pinned("1 1 1", "-5 -3 -3 -5"), one}, {pinned("1 1 3", "0 4 6 4"), one}, {pinned("1 2 1", "0 8 10 6"), two}, {pinned("1 1 1 1 1 1 1 1 1 1", "-100 -82 -68 -58 -52 -50 -52 -58 -68 -82 -100"), two}, {pinned("1 1 1", "7 4 -1 -8"), one},
	} {
		expectJust(k.b, k.s)
		for joint := range k.b.Low {
			expectMoved(with(k.b, joint, 1, 1), false)
			expectMoved(with(k.b, joint, -1, -1), false)
			expectMoved(with(k.b, joint, -1, 0), true)
			expectMoved(with(k.b, joint, 0, 1), true)
		}
	}
	// joints that are free, or bound on one side alone
	low, high := archOf("1 1 1 1", "0 0 4 0 -5", "0 3 10 10 0"), archOf("1 1 1 1", "-9 3 -9 3 -9", "0 9 4 9 0")
	expectJust(low, one)
	expectJust(high, one)
	for _, k := range []struct {
		b         impl.Blocks
		joint     int
		low, high int64
		want      bool
	}{
		{low, 0, 1, 1, false}, {low, 1, 0, -1, false}, {low, 2, 1, 0, false}, {low, 4, 0, -1, false}, {low, 0, -1, -1, true}, {low, 1, 0, 1, true}, {low, 2, -1, 0, true}, {low, 4, 0, 1, true}, {low, 1, 3, 0, true}, {low, 2, 0, -6, true}, {low, 3, 3, -7, true}, {low, 3, 4, 0, false}, {low, 3, 0, -8, false}, {low, 4, 5, 0, true},
		{high, 0, 0, -1, false}, {high, 1, 1, 0, false}, {high, 2, 0, -1, false}, {high, 3, 1, 0, false}, {high, 4, 0, -1, false}, {high, 0, 0, 1, true}, {high, 1, -1, 0, true}, {high, 2, 0, 1, true}, {high, 3, -1, 0, true}, {high, 4, 0, 1, true}, {high, 0, 9, 0, true}, {high, 1, 0, -6, true}, {high, 2, 13, 0, true},
	} {
		expectMoved(with(k.b, k.joint, k.low, k.high), k.want)
	}
}

// TestLeastCurvatures: arches whose greatest lower bound is 0 or would be negative, and those for which it is positive.
func TestLeastCurvatures(t *testing.T) {
	known := []struct {
		b         impl.Blocks
		low, high impl.Fraction
	}{
		// a straight line just fits: the lower bound is 0
		{archOf("1 1", "0 5 10", "0 9 10"), impl.Fraction{Num: 0, Den: 1}, impl.Fraction{Num: 4, Den: 1}},
		{archOf("2 2", "0 0 0", "0 3 0"), impl.Fraction{Num: 0, Den: 1}, impl.Fraction{Num: 3, Den: 2}},
		{archOf("1 2 4", "-7 -7 -7 -7", "-7 -6 -6 -7"), impl.Fraction{Num: 0, Den: 1}, impl.Fraction{Num: 1, Den: 5}},
		// lines that bend upwards would fit as well: it would be negative
		{archOf("1 1", "0 4 10", "0 9 10"), impl.Fraction{Num: 0, Den: 1}, impl.Fraction{Num: 4, Den: 1}},
		{archOf("2 2", "0 -5 0", "0 1 0"), impl.Fraction{Num: 0, Den: 1}, impl.Fraction{Num: 1, Den: 2}},
		{wideArch(4, 1, -1, 1), impl.Fraction{Num: 0, Den: 1}, impl.Fraction{Num: 1, Den: 2}},
		// no straight line fits: it is positive
		{archOf("1 1", "0 6 10", "0 9 10"), impl.Fraction{Num: 1, Den: 1}, impl.Fraction{Num: 4, Den: 1}},
		{archOf("2 2", "0 1 0", "0 3 0"), impl.Fraction{Num: 1, Den: 2}, impl.Fraction{Num: 3, Den: 2}},
		{archOf("999 1000", "-1 1 -1", "0 1 0"), impl.Fraction{Num: 2, Den: 1999}, impl.Fraction{Num: 4, Den: 1999}},
		{archOf("1 1 1 1", "0 3 3 3 0", "0 4 5 4 0"), impl.Fraction{Num: 1, Den: 1}, impl.Fraction{Num: 5, Den: 4}},
	}
	for _, k := range known {
		expect(t, fmt.Sprintf("CurvatureBounds(%v)", k.b), values(impl.CurvatureBounds(k.b)), k.low, k.high, impl.OK)
		expectArch(t, k.b)
	}
}

// TestLargeBounds: bounds, thrusts and lines of arches with large loads and heights, in lowest terms.
func TestLargeBounds(t *testing.T) {
	known := []struct {
		b            impl.Blocks
		high, thrust impl.Fraction
		line         string
		den          int64
	}{
		{pinned("1 1", "-1000 1000 -1000"), impl.Fraction{Num: 2000, Den: 1}, impl.Fraction{Num: 1, Den: 4000}, "-1000 1000 -1000", 1},
		{pinned("1000 1000", "-1000 1000 -1000"), impl.Fraction{Num: 2, Den: 1}, impl.Fraction{Num: 1, Den: 4}, "-1000 1000 -1000", 1},
		{pinned("999 1000", "-1000 1000 -1000"), impl.Fraction{Num: 4000, Den: 1999}, impl.Fraction{Num: 1999, Den: 8000}, "-1000 1000 -1000", 1},
		{pinned("1000 1000", "0 0 -1"), impl.Fraction{Num: 1, Den: 2000}, impl.Fraction{Num: 1000, Den: 1}, "0 0 -1", 1},
		{wideArch(10, 1000, -1000, 1000), impl.Fraction{Num: 2, Den: 25}, impl.Fraction{Num: 25, Den: 4}, "-1000 -280 280 680 920 1000 920 680 280 -280 -1000", 1},
		{wideArch(10, 1, -1000, 1000), impl.Fraction{Num: 80, Den: 1}, impl.Fraction{Num: 1, Den: 160}, "-1000 -280 280 680 920 1000 920 680 280 -280 -1000", 1},
		{wideArch(9, 1000, 0, 1000), impl.Fraction{Num: 1, Den: 20}, impl.Fraction{Num: 10, Den: 1}, "0 400 700 900 1000 1000 900 700 400 0", 1},
	}
	for _, k := range known {
		_, high, code := impl.CurvatureBounds(k.b)
		expect(t, fmt.Sprintf("CurvatureBounds(%v)", k.b), values(high, code), k.high, impl.OK)
		expect(t, fmt.Sprintf("LeastThrust(%v)", k.b), values(impl.LeastThrust(k.b)), k.thrust, impl.OK)
		expect(t, fmt.Sprintf("LineOfThrust(%v)", k.b), values(impl.LineOfThrust(k.b)), numbersOf(k.line), k.den, impl.OK)
	}
	great := 0
	for _, b := range edgeArches() {
		expectArch(t, b)
		if _, den, _ := impl.LineOfThrust(b); den > 100000 {
			great++
		}
	}
	expect(t, "there are lines with great denominators", values(great > 0), true)
}

// TestLineOfThrust: the line with the greatest curvature, over the least common denominator of all its heights.
func TestLineOfThrust(t *testing.T) {
	known := []struct {
		b    impl.Blocks
		line string
		den  int64
	}{
		// all heights are integers
		{vault, "0 3 0", 1}, {archOf("1 1", "0 6 10", "0 9 10"), "0 9 10", 1}, {archOf("2 2", "0 0 0", "0 3 0"), "0 3 0", 1}, {pinned("1 1", "0 3 5"), "0 3 5", 1}, {archOf("1 1 1", "0 0 0 0", "1 1 1 1"), "0 1 1 0", 1}, {archOf("3 1 1", "-10 -10 -10 -10", "0 0 0 0"), "-10 0 -2 -10", 1}, {archOf("1 1", "0 0 0", "0 5 9"), "0 5 0", 1},
		// negative heights alone
		{archOf("1 2 1", "-4 -4 -4 -4", "-3 -3 -3 -3"), "-4 -3 -3 -4", 1}, {pinned("1 1 1", "-5 -3 -3 -5"), "-5 -3 -3 -5", 1},
		// some heights, or one of them, are no integers
		{wideArch(4, 1, -1, 1), "-2 1 2 1 -2", 2}, {archOf("1 1 1 1", "-2 -2 -2 -2 -2", "7 -1 7 7 7"), "-6 -3 -2 -3 -6", 3}, {archOf("1 2 4", "-7 -7 -7 -7", "-7 -6 -6 -7"), "-35 -31 -30 -35", 5}, {archOf("3 1 2", "0 0 0 0", "5 5 2 9"), "0 11 10 0", 5},
		// the denominator of a height is less than the common one
		{archOf("1 2 1 1", "-5 -5 -5 -5 -5", "5 5 -2 9 -3"), "-110 -59 -44 -65 -110", 22}, {archOf("7 9 5", "-5 -5 -5 -5", "-4 5 -2 -4"), "-110 -41 -44 -110", 22},
		{edgeArches()[14], "-161069755 -49976928 49588039 124335386 171127253 190165000 180592847 149827554 97785221 14632768 -96793985", 190165},
	}
	for _, k := range known {
		expect(t, fmt.Sprintf("LineOfThrust(%v)", k.b), values(impl.LineOfThrust(k.b)), numbersOf(k.line), k.den, impl.OK)
		expectArch(t, k.b)
	}
}

// expectLeastLine checks what the line with the least thrust must be: within the bounds, of the greatest curvature, over the least denominator,
// and such that no c and no y that is less would do.
func expectLeastLine(t *testing.T, b impl.Blocks) {
	t.Helper()
	line, den, code := impl.LineOfThrust(b)
	_, s, _ := impl.CurvatureBounds(b)
	is, isCode := impl.IsLine(b, line, den)
	if code != impl.OK || isCode != impl.OK || !is || !wantedIsLine(b, line, den) {
		t.Fatalf("LineOfThrust(%v): got %v %d %d, and IsLine tells %t %d", b, line, den, code, is, isCode)
	}
	divisor := big.NewInt(den)
	for k, height := range line {
		divisor.GCD(nil, nil, divisor, new(big.Int).Abs(big.NewInt(height)))
		if height < b.Low[k]*den || height > b.High[k]*den {
			t.Errorf("LineOfThrust(%v): %d/%d is out of bounds", b, height, den)
		}
	}
	if !divisor.IsInt64() || divisor.Int64() != 1 {
		t.Errorf("LineOfThrust(%v): %v has the common divisor %v with %d", b, line, divisor, den)
	}
	// The line bends by s * (Loads[0] + Loads[1]) at the joint 1, and has c = height 1 - height 0 + s * m[1].
	bent := big.NewRat(2*line[1]-line[0]-line[2], den)
	curvature := big.NewRat(s.Num, s.Den)
	if bent.Cmp(new(big.Rat).Mul(curvature, wholeRat(b.Loads[0]+b.Loads[1]))) != 0 {
		t.Errorf("LineOfThrust(%v): %v %d does not have the curvature %v", b, line, den, s)
	}
	c := new(big.Rat).Add(big.NewRat(line[1]-line[0], den), new(big.Rat).Mul(curvature, wholeRat(b.Loads[0])))
	expectLeastLean(t, b, curvature, c, big.NewRat(line[0], den))
}

// expectLeastLean checks that c is the least possible one for a curvature, and then y.
func expectLeastLean(t *testing.T, b impl.Blocks, s, c, y *big.Rat) {
	t.Helper()
	var leastC, leastY *big.Rat
	m := wantedMoments(b.Loads)
	for j := range m {
		bent := new(big.Rat).Mul(s, wholeRat(m[j]))
		at := new(big.Rat).Add(wholeRat(b.Low[j]), bent)
		at.Sub(at, new(big.Rat).Mul(c, wholeRat(int64(j))))
		if leastY == nil || at.Cmp(leastY) > 0 {
			leastY = at
		}
		for k := range j {
			bound := new(big.Rat).Mul(s, wholeRat(m[j]-m[k]))
			bound.Add(bound, wholeRat(b.Low[j]-b.High[k])).Quo(bound, wholeRat(int64(j-k)))
			if leastC == nil || bound.Cmp(leastC) > 0 {
				leastC = bound
			}
		}
	}
	if c.Cmp(leastC) != 0 || y.Cmp(leastY) != 0 {
		t.Errorf("LineOfThrust(%v): got c %v and y %v, want %v and %v", b, c, y, leastC, leastY)
	}
}

// eachSmallArch visits all arches of some blocks with these loads and heights from low to high.
func eachSmallArch(blocks int, loads []int64, low, high int64, visit func(b impl.Blocks)) {
	var pairs [][2]int64
	for from := low; from <= high; from++ {
		for to := from; to <= high; to++ {
			pairs = append(pairs, [2]int64{from, to})
		}
	}
	for n := range power(len(loads), blocks) {
		b := impl.Blocks{}
		for _, k := range digitsOf(n, len(loads), blocks) {
			b.Loads = append(b.Loads, loads[k])
		}
		for m := range power(len(pairs), blocks+1) {
			b.Low, b.High = nil, nil
			for _, k := range digitsOf(m, len(pairs), blocks+1) {
				b.Low, b.High = append(b.Low, pairs[k][0]), append(b.High, pairs[k][1])
			}
			visit(b)
		}
	}
}

// digitsOf returns the last digits of a number to some base, the last one first.
func digitsOf(n, base, digits int) []int64 {
	var list []int64
	for range digits {
		list = append(list, int64(n%base))
		n /= base
	}
	return list
}

// TestArchesOfAllKinds: all small arches, and many greater ones, against their conditions and against lines that touch three joints.
func TestArchesOfAllKinds(t *testing.T) {
	kinds := map[string]int{}
	check := func(b impl.Blocks) { kinds[expectArch(t, b)]++ }
	eachSmallArch(2, []int64{1, 3}, -1, 2, check)
	eachSmallArch(3, []int64{1, 2}, 0, 1, check)
	eachSmallArch(3, []int64{2}, -1, 1, check)
	for n := range power(7, 4) {
		check(impl.Blocks{Loads: []int64{1, 3, 2}, Low: digitsOf(n, 7, 4), High: digitsOf(n, 7, 4)})
	}
	for _, b := range mixedArches() {
		check(b)
	}
	for _, kind := range []string{standsFromZero, standsBetween, standsJust, fallsByBan, fallsFlat, fallsBelow, fallsBetween} {
		if kinds[kind] < 10 {
			t.Errorf("there are only %d arches of this kind: %s", kinds[kind], kind)
		}
	}
}

// TestPromise13Line: the line with the least thrust is a line of thrust, and no other one has less thrust.
func TestPromise13Line(t *testing.T) {
	lines, negative := 0, 0
	for _, b := range append(mixedArches(), edgeArches()...) {
		line, _, code := impl.LineOfThrust(b)
		if code != impl.OK {
			continue
		}
		lines++
		if slices.Min(line) < 0 {
			negative++
		}
		expectLeastLine(t, b)
	}
	expect(t, "there are lines, also with negative heights", values(lines > 100, negative > 50), true, true)
}

// floorOf returns the greatest integer that is not greater than num / den.
func floorOf(num, den int64) int64 {
	floor, _ := new(big.Int).DivMod(big.NewInt(num), big.NewInt(den), new(big.Int))
	return floor.Int64()
}

// TestPromise13Around: an arch around a line of thrust stands, with no more thrust than this line has.
func TestPromise13Around(t *testing.T) {
	r := roll(2)
	whole, broken := 0, 0
	for range 400 {
		b := impl.Blocks{Loads: rolledLoads(r, int(between(r, 2, 10)))}
		m := wantedMoments(b.Loads)
		// s is num / den: from one end to the other one the line falls by 1 to 900, which c gives back in part.
		den := between(r, 1, 30) * m[len(m)-1]
		num := between(r, 1, 30*den/m[len(m)-1])
		lean, first := between(r, 0, 40)*num*m[len(m)-1]/int64(10*len(m)), between(r, -300, 300)*den
		for k, moment := range m {
			height := first + lean*int64(k) - num*moment
			low, high := floorOf(height, den), -floorOf(-height, den)
			b.Low, b.High = append(b.Low, low-between(r, 0, 3)/3), append(b.High, high+between(r, 0, 3)/3)
			if low == high {
				whole++
			} else {
				broken++
			}
		}
		expectAround(t, b, num, den)
	}
	expect(t, "there are heights of both kinds", values(whole > 100, broken > 1000), true, true)
}

// expectAround checks that an arch stands, also with num / den as its curvature, and that it still does with more place.
func expectAround(t *testing.T, b impl.Blocks, num, den int64) {
	t.Helper()
	expect(t, fmt.Sprintf("CanStand(%v)", b), values(impl.CanStand(b)), true, impl.OK)
	low, high, code := impl.CurvatureBounds(b)
	s := big.NewRat(num, den)
	if code != impl.OK || big.NewRat(low.Num, low.Den).Cmp(s) > 0 || big.NewRat(high.Num, high.Den).Cmp(s) < 0 {
		t.Fatalf("CurvatureBounds(%v): got %v %v %d, but %v is possible", b, low, high, code, s)
	}
	expectLeastLine(t, b)
}

// TestPromise13MorePlace: an arch with greater High or lesser Low stands as well, with no more thrust.
func TestPromise13MorePlace(t *testing.T) {
	r := roll(3)
	less, same := 0, 0
	for _, b := range append(mixedArches(), vault, pinned("1 1 1 1", "0 3 4 3 0"), wideArch(10, 1000, -999, 999)) {
		thrust, code := impl.LeastThrust(b)
		if code != impl.OK {
			continue
		}
		wider := copyOf(b)
		for k := range b.Low {
			wider.Low[k], wider.High[k] = clampHeight(b.Low[k]-between(r, 0, 2)/2), clampHeight(b.High[k]+between(r, 0, 2)/2)
		}
		joint := r.IntN(len(b.Low))
		for _, other := range []impl.Blocks{wider, with(b, joint, clampHeight(b.Low[joint]-1)-b.Low[joint], 0), with(b, joint, 0, clampHeight(b.High[joint]+1)-b.High[joint])} {
			expect(t, fmt.Sprintf("CanStand(%v)", other), values(impl.CanStand(other)), true, impl.OK)
			least, code := impl.LeastThrust(other)
			compared := big.NewRat(least.Num, max(least.Den, 1)).Cmp(big.NewRat(thrust.Num, thrust.Den))
			if code != impl.OK || compared > 0 {
				t.Errorf("LeastThrust(%v): got %v %d, but %v has %v", other, least, code, b, thrust)
			}
			if compared < 0 {
				less++
			} else {
				same++
			}
		}
	}
	expect(t, "there are both", values(less > 100, same > 100), true, true)
}

func TestIsLine(t *testing.T) {
	wide := wideArch(3, 1, -1000, 1000)
	known := []struct {
		b    impl.Blocks
		line string
		den  int64
		want bool
	}{
		{vault, "0 3 0", 1, true}, {vault, "0 3 1", 1, false}, {vault, "1 3 0", 1, false}, {vault, "0 2 0", 1, false}, {vault, "0 4 0", 1, false}, {vault, "1 4 1", 1, false}, {vault, "0 3 0", 2, false}, {vault, "0 3 0", 100000000, false},
		// any denominator that fits
		{vault, "0 6 0", 2, true}, {vault, "0 300000000 0", 100000000, true}, {vault, "0 299999999 0", 100000000, false}, {vault, "0 300000001 0", 100000000, false}, {vault, "0 299999997 0", 99999999, true}, {vault, "1 300000000 0", 100000000, false},
		// numbers at their limits
		{pinned("2 2", "-1000 1000 -1000"), "-100000000000 100000000000 -100000000000", 100000000, true}, {vault, "-100000000000 100000000000 -100000000000", 100000000, false}, {vault, "100000000000 100000000000 100000000000", 1, false}, {vault, "-100000000000 -100000000000 -100000000000", 1, false}, {vault, "0 100000000000 0", 1, false},
		{pinned("1 1000", "1000 1000 -1000"), "100000000000 100000000000 -100000000000", 100000000, true}, {pinned("1000 1000", "-1000 1000 1000"), "-100000000000 100000000000 100000000000", 100000000, true}, {pinned("1000 1000", "-1000 1000 1000"), "-100000000000 100000000000 99999999999", 100000000, false}, {wideArch(2, 1, -1000, 1000), "-100000000000 -99999999999 -100000000000", 100000000, true},
		// curvatures of all signs
		{wide, "0 3 3 0", 1, true}, {wide, "0 1 2 3", 1, false}, {wide, "0 0 0 0", 1, false}, {wide, "5 5 5 5", 7, false}, {wide, "3 0 0 3", 1, false}, {wide, "0 -1 -1 0", 1, false}, {wide, "3 2 1 0", 1, false}, {wide, "-9 -8 -8 -9", 9, true},
		// no one curvature
		{wide, "0 3 4 0", 1, false}, {wide, "0 3 4 3", 1, true}, {wide, "0 1 2 2", 1, false}, {wide, "0 1 1 2", 1, false}, {wide, "0 2 2 1", 1, false}, {wide, "0 1 0 1", 1, false}, {wide, "0 0 3 0", 1, false}, {wide, "999 998 996 993", 1, true},
		{archOf("1 1 3", "-9 -9 -9 -9", "9 9 9 9"), "0 4 6 4", 1, true}, {archOf("1 1 3", "-9 -9 -9 -9", "9 9 9 9"), "0 4 6 5", 1, false}, {archOf("1 1 3", "-9 -9 -9 -9", "9 9 9 9"), "0 3 4 3", 1, false}, {archOf("1 1 3", "-9 -9 -9 -9", "9 9 9 9"), "0 2 3 2", 1, true}, {archOf("1 1 3", "-9 -9 -9 -9", "9 9 9 9"), "0 2 3 2", 5, true},
		// on a bound, and beyond it at one joint alone
		{archOf("1 1", "0 0 0", "9 3 9"), "1 3 1", 1, true}, {archOf("1 1", "0 0 0", "9 3 9"), "1 4 1", 1, false}, {archOf("1 1", "0 0 0", "9 3 9"), "2 7 2", 2, false}, {archOf("1 1", "0 0 0", "9 3 9"), "2 6 2", 2, true}, {archOf("1 1", "1 0 0", "9 3 9"), "0 3 1", 1, false}, {archOf("1 1", "1 0 0", "9 3 9"), "1 4 2", 2, false}, {archOf("1 1", "0 0 1", "9 3 9"), "0 3 0", 1, false},
	}
	for _, k := range known {
		line := numbersOf(k.line)
		expect(t, fmt.Sprintf("IsLine(%v, %s, %d)", k.b, k.line, k.den), values(impl.IsLine(k.b, line, k.den)), k.want, impl.OK)
		expectLine(t, k.b, line, k.den)
	}
}

// TestIsLineAtEachBound: a line that lies on a bound at one joint is one, but one that is beyond it there, by as little as can be, is none.
func TestIsLineAtEachBound(t *testing.T) {
	b := archOf("3 1 1 5", "-1000 -1000 -1000 -1000 -1000", "1000 1000 1000 1000 1000")
	for _, den := range []int64{1, 2, 3, 7} {
		var line []int64
		for k, moment := range wantedMoments(b.Loads) {
			line = append(line, den*5+40*int64(k)-3*moment)
		}
		expect(t, fmt.Sprintf("IsLine(%v, %v, %d)", b, line, den), values(impl.IsLine(b, line, den)), true, impl.OK)
		for k, height := range line {
			floor, ceiling := floorOf(height, den), -floorOf(-height, den)
			for by := int64(-2); by <= 2; by++ {
				below, above := with(b, k, floor+by+1000, 0), with(b, k, 0, ceiling+by-1000)
				expect(t, fmt.Sprintf("IsLine(%v, %v, %d)", below, line, den), values(impl.IsLine(below, line, den)), by <= 0, impl.OK)
				expect(t, fmt.Sprintf("IsLine(%v, %v, %d)", above, line, den), values(impl.IsLine(above, line, den)), by >= 0, impl.OK)
			}
			for _, by := range []int64{-1, 1} {
				moved := slices.Clone(line)
				moved[k] += by
				expect(t, fmt.Sprintf("IsLine(%v, %v, %d)", b, moved, den), values(impl.IsLine(b, moved, den)), false, impl.OK)
				expectLine(t, b, moved, den)
			}
		}
	}
}

// TestIsLineOfAll: all lines of few small heights, and lines about those that are told, against y, c and s.
func TestIsLineOfAll(t *testing.T) {
	for _, b := range []impl.Blocks{wideArch(3, 1, -1, 2), archOf("1 2 1", "-2 -1 -1 -2", "1 2 2 0"), archOf("1 1 3", "-2 -2 -2 -2", "2 2 2 2")} {
		for n := range power(7, 4) {
			line := digitsOf(n, 7, 4)
			for k := range line {
				line[k] -= 3
			}
			expectLine(t, b, line, 1)
			expectLine(t, b, line, 2)
		}
	}
	r := roll(4)
	for _, b := range mixedArches() {
		line, den, code := impl.LineOfThrust(b)
		if code != impl.OK {
			continue
		}
		twice := slices.Clone(line)
		for k := range line {
			twice[k] *= 2
		}
		expectLine(t, b, twice, 2*den)
		line[r.IntN(len(line))] += 2*r.Int64N(2) - 1
		expectLine(t, b, line, den)
		slices.Reverse(twice)
		expectLine(t, b, twice, 2*den)
	}
}

func TestWhyNot(t *testing.T) {
	known := []struct {
		b               impl.Blocks
		low, high, kind string
	}{
		// the first ones of several joints that give the same bound
		{sunk, "", "2 0 0 1", fallsFlat}, {pinned("2 2", "0 0 0"), "", "2 0 0 1", fallsFlat}, {pinned("2 2", "5 3 1"), "", "2 0 0 1", fallsFlat}, {pinned("1 1 1", "0 0 0 0"), "", "2 0 0 1", fallsFlat},
		{pinned("1 2 4", "0 5 9 9"), "2 1 0 3", "2 0 0 1", fallsBetween},
		// no lower bound that is greater than 0
		{archOf("1 2 4", "0 -5 -5 0", "0 -1 -1 0"), "", "3 0 0 1", fallsFlat},
		// there is one, but the upper bound is negative or 0
		{pinned("1 2 4", "0 5 0 5"), "", "3 0 1 2", fallsBelow}, {pinned("1 2 4", "0 5 10 14"), "", "2 0 0 1", fallsBelow},
		// a condition without B
		{pinned("1 1 1", "0 3 3 1"), "", "3 0 1 2", fallsByBan}, {pinned("1 1 1", "0 3 3 -1"), "", "2 1 0 3", fallsByBan}, {pinned("1 1 1", "0 0 0 1"), "", "3 0 1 2", fallsByBan}, {pinned("1 1 1 1", "0 3 5 3 0"), "", "2 1 0 3", fallsByBan}, {archOf("1 1 1 1", "-9 4 -9 3 -9", "0 9 4 9 0"), "", "3 0 1 2", fallsByBan},
		// both bounds
		{archOf("1 1 1 1", "0 0 5 0 -5", "0 3 10 10 0"), "2 1 0 4", "2 0 0 1", fallsBetween}, {archOf("1 1 1 1", "0 0 4 0 -5", "0 3 10 10 -1"), "2 1 0 4", "2 0 0 1", fallsBetween}, {pinned("1 3 2", "1 6 6 0"), "1 0 0 2", "3 0 1 2", fallsBetween}, {pinned("1 4 3", "59 85 105 118"), "1 0 0 2", "3 0 1 2", fallsBetween}, {pinned("3 1 1", "26 34 38 39"), "2 1 1 3", "2 1 0 3", fallsBetween},
	}
	for _, k := range known {
		low, high, code := impl.WhyNot(k.b)
		expect(t, fmt.Sprintf("WhyNot(%v)", k.b), values(listText(low), listText(high), code), listText(numbersOf(k.low)), listText(numbersOf(k.high)), impl.OK)
		expect(t, fmt.Sprintf("the kind of %v", k.b), values(expectArch(t, k.b)), k.kind)
	}
}

// wantedProven reports whether joints prove that an arch falls, and the code: both lists must be joints j > k and p < q, but the first one may be empty.
func wantedProven(b impl.Blocks, low, high []int64) (bool, int64) {
	joints := int64(len(b.Low))
	areFour := func(list []int64) bool {
		return len(list) == 4 && list[1] >= 0 && list[1] < list[0] && list[0] < joints && list[2] >= 0 && list[2] < list[3] && list[3] < joints
	}
	if len(low) > 0 && !areFour(low) || !areFour(high) {
		return false, impl.ErrRange
	}
	a, c := wantedCondition(b, high)
	switch {
	case c > 0:
		return false, impl.OK
	case c == 0 && a > 0 || c < 0 && a >= 0:
		return true, impl.OK
	case len(low) == 0 || c == 0:
		return false, impl.OK
	}
	lowA, lowC := wantedCondition(b, low)
	return lowC > 0 && big.NewRat(lowA, lowC).Cmp(big.NewRat(a, c)) > 0, impl.OK
}

// expectProven checks ProvesFall.
func expectProven(t *testing.T, b impl.Blocks, low, high []int64) (proves bool) {
	t.Helper()
	one, oneUnchanged := guarded(low, 77)
	other, otherUnchanged := guarded(high, 78)
	proves, code := impl.ProvesFall(b, one, other)
	want, wantedCode := wantedProven(b, low, high)
	if proves != want || code != wantedCode {
		t.Errorf("ProvesFall(%v, %v, %v): got %t %d, want %t %d", b, low, high, proves, code, want, wantedCode)
	}
	oneUnchanged(t, "ProvesFall")
	otherUnchanged(t, "ProvesFall")
	return proves
}

func TestProvesFall(t *testing.T) {
	steps, split := pinned("1 2 4", "0 5 0 5"), pinned("1 3 2", "1 6 6 0")
	just := archOf("1 1 1 1", "0 0 4 0 -5", "0 3 10 10 0")
	known := []struct {
		b         impl.Blocks
		low, high string
		want      bool
	}{
		// the upper bound alone: negative, 0 and positive
		{sunk, "", "2 0 0 1", true}, {sunk, "", "2 1 0 1", true}, {pinned("2 2", "0 0 0"), "", "2 0 0 1", true}, {steps, "", "3 0 1 2", true}, {vault, "", "2 0 0 1", false}, {split, "", "3 0 1 2", false},
		// B of high is positive: it proves nothing, whatever low is
		{sunk, "", "1 0 1 2", false}, {vault, "", "1 0 1 2", false}, {steps, "", "1 0 1 2", false}, {sunk, "2 0 0 1", "1 0 1 2", false}, {steps, "3 0 1 2", "1 0 0 2", false},
		// B of high is 0, and A is positive, 0 and negative
		{pinned("1 1 1", "0 3 3 1"), "", "3 0 1 2", true}, {pinned("1 1 1", "0 3 3 0"), "", "3 0 1 2", false}, {pinned("1 1 1", "0 3 3 -1"), "", "3 0 1 2", false}, {pinned("1 1 1", "0 3 3 1"), "", "2 1 0 3", false}, {vault, "", "1 0 0 1", false}, {wideArch(2, 1, -1, 1), "", "2 0 0 2", false}, {pinned("1 1 1", "0 3 3 -1"), "", "2 1 0 3", true},
		{pinned("1 1 1", "0 3 3 -1"), "1 0 1 2", "3 0 1 2", false}, {pinned("1 1 1", "0 3 3 0"), "1 0 0 2", "3 0 1 2", false},
		// both together: B of low is positive, and the bounds leave nothing, or just one curvature
		{split, "1 0 0 2", "3 0 1 2", true}, {split, "1 0 1 2", "3 0 1 2", true}, {just, "2 0 0 4", "2 0 0 1", false}, {vault, "1 0 0 2", "2 0 0 1", false}, {archOf("1 1 1 1", "0 0 5 0 -5", "0 3 10 10 0"), "2 0 0 4", "2 0 0 1", true}, {archOf("1 1 1 1", "0 0 4 0 -5", "0 4 10 10 0"), "2 0 0 4", "2 0 0 1", false},
		// B of low is 0 or negative: it proves nothing, even if no curvature fulfils it
		{pinned("1 1 1", "0 3 3 1"), "3 0 1 2", "2 0 0 1", false}, {steps, "3 0 1 2", "2 0 0 1", false}, {sunk, "2 0 0 1", "2 1 0 1", true}, {split, "3 0 1 2", "3 0 1 2", false}, {split, "3 0 0 3", "3 0 1 2", false},
		// high proves it, whatever low is
		{sunk, "1 0 1 2", "2 0 0 1", true}, {sunk, "2 0 0 2", "2 0 0 1", true}, {pinned("1 1 1", "0 3 3 1"), "1 0 1 2", "3 0 1 2", true}, {pinned("1 1 1", "0 3 3 1"), "2 0 0 1", "3 0 1 2", true},
	}
	for _, k := range known {
		expect(t, fmt.Sprintf("ProvesFall(%v, %s, %s)", k.b, k.low, k.high), values(impl.ProvesFall(k.b, numbersOf(k.low), numbersOf(k.high))), k.want, impl.OK)
		expectProven(t, k.b, numbersOf(k.low), numbersOf(k.high))
	}
}

// TestProvesFallOfAll: all joints of small arches of all kinds. Nothing proves that an arch falls that can stand.
func TestProvesFallOfAll(t *testing.T) {
	kinds := map[string]int{}
	check := func(b impl.Blocks) {
		all := allJoints(b)
		kind := proofOf(b).kind()
		for _, high := range all {
			for _, low := range append(all, nil) {
				if expectProven(t, b, low, high) {
					kinds[kind]++
				}
			}
		}
	}
	for _, heights := range []string{"0 3 0", "0 0 0", "0 -3 0", "5 3 1", "0 9 10"} {
		check(pinned("2 2", heights))
		check(pinned("1 7", heights))
		check(with(pinned("3 2", heights), 1, -2, 2))
	}
	for _, heights := range []string{"0 3 3 0", "0 3 3 1", "0 3 3 -1", "0 0 0 0", "1 6 6 0", "0 5 0 5", "0 5 9 9", "9 2 1 0", "0 5 10 14"} {
		for _, loads := range []string{"1 1 1", "1 3 2", "1 2 4"} {
			check(pinned(loads, heights))
		}
		check(with(pinned("2 1 2", heights), 2, -1, 0))
		check(with(pinned("1 4 2", heights), 0, -2, 3))
	}
	for _, kind := range []string{standsFromZero, standsBetween, standsJust} {
		expect(t, "proofs of what "+kind, values(kinds[kind]), 0)
	}
	for _, kind := range []string{fallsByBan, fallsFlat, fallsBelow, fallsBetween} {
		expect(t, "there are proofs of what "+kind, values(kinds[kind] > 0), true)
	}
	for _, b := range mixedArches() {
		all := allJoints(b)
		for k := range 20 {
			proves := expectProven(t, b, all[k*37%len(all)], all[k*101%len(all)]) || expectProven(t, b, nil, all[k*61%len(all)])
			if stands, _ := impl.CanStand(b); stands && proves {
				t.Errorf("%v can stand, but is proven to fall", b)
			}
		}
	}
}

// TestProvesFallErrors: lists that are not four joints j > k and p < q, as the first and as the second one. The first one may be empty, but not the second one.
func TestProvesFallErrors(t *testing.T) {
	check := func(b impl.Blocks, low, high []int64) {
		t.Helper()
		expect(t, fmt.Sprintf("ProvesFall(%v, %v, %v)", b, low, high), values(impl.ProvesFall(b, low, high)), false, impl.ErrRange)
	}
	for _, b := range []impl.Blocks{vault, sunk, pinned("1 1 1", "0 3 3 1"), wideArch(10, 1, 0, 0)} {
		n := int64(len(b.Loads))
		proves, code := impl.ProvesFall(b, []int64{n, 0, 0, n}, []int64{n, 0, 0, n})
		expect(t, fmt.Sprintf("ProvesFall(%v) with the last joint", b), values(proves, code), false, impl.OK)
		wrong := [][]int64{
			{0}, {1}, {1, 0}, {1, 0, 0}, {2, 0, 0}, {1, 0, 0, 1, 1}, {2, 0, 0, 1, 0, 0, 0}, {1, 0, 0, 1, 1, 0, 0, 1}, make([]int64, 1000),
			// j equal to k, p equal to q, both, and the other way round
			{1, 1, 0, 1}, {0, 0, 0, 1}, {1, 0, 1, 1}, {1, 0, 0, 0}, {n, n, 0, 1}, {n, 0, n, n}, {0, 0, 0, 0}, {n, n, n, n}, {0, 1, 0, 1}, {1, 2, 0, 1}, {0, n, 0, n}, {1, 0, 1, 0}, {1, 0, 2, 1}, {n, 0, n, 0}, {0, 1, 1, 0},
			// no joints
			{n + 1, 0, 0, 1}, {n + 1, n, 0, 1}, {1, 0, 0, n + 1}, {1, 0, n, n + 1}, {1, -1, 0, 1}, {0, -1, 0, 1}, {1, 0, -1, 1}, {1, 0, -1, 0}, {-1, -2, 0, 1}, {1, 0, -2, -1}, {n + 2, n + 1, 0, 1}, {1, 0, n + 1, n + 2},
		}
		for _, x := range extremes[:4] {
			wrong = append(wrong, []int64{1, x, 0, 1}, []int64{1, 0, x, 1}, []int64{x, 0, 0, 1}, []int64{1, 0, 0, x}, []int64{x + 1, x, x, x + 1})
		}
		for _, x := range extremes[6:] {
			wrong = append(wrong, []int64{x, 0, 0, 1}, []int64{1, 0, 0, x}, []int64{1, x, 0, 1}, []int64{1, 0, x, 1}, []int64{x, x - 1, x - 1, x})
		}
		for _, list := range wrong {
			check(b, list, []int64{2, 0, 0, 1})
			check(b, list, []int64{1, 0, 1, 2})
			check(b, nil, list)
			check(b, []int64{1, 0, 1, 2}, list)
			check(b, list, list)
			check(b, list, nil)
		}
		check(b, nil, nil)
		check(b, []int64{}, []int64{})
		check(b, []int64{1, 0, 1, 2}, nil)
		check(b, []int64{2, 0, 0, 1}, []int64{})
	}
	// all numbers about those of joints, each as the first list and as the second one
	b := pinned("1 3 2", "1 6 6 0")
	for n := range power(6, 4) {
		list := digitsOf(n, 6, 4)
		for k := range list {
			list[k]--
		}
		expectProven(t, b, list, []int64{3, 0, 1, 2})
		expectProven(t, b, []int64{1, 0, 0, 2}, list)
		expectProven(t, b, nil, list)
	}
}

func TestMirrorBlocks(t *testing.T) {
	mirror, code := impl.MirrorBlocks(archOf("1 2 4", "-1 0 5 -3", "0 1 6 -2"))
	expect(t, "MirrorBlocks", values(mirror, code), archOf("4 2 1", "-3 5 0 -1", "-2 6 1 0"), impl.OK)
	for _, arch := range validArches() {
		b, unchanged := guardedBlocks(arch)
		call := fmt.Sprintf("MirrorBlocks(%v)", arch)
		mirror, code := impl.MirrorBlocks(b)
		last := len(arch.Loads)
		if code != impl.OK || len(mirror.Loads) != last || len(mirror.Low) != last+1 || len(mirror.High) != last+1 {
			t.Fatalf("%s: got %v %d", call, mirror, code)
		}
		for k := range last + 1 {
			if k < last && mirror.Loads[k] != arch.Loads[last-1-k] || mirror.Low[k] != arch.Low[last-k] || mirror.High[k] != arch.High[last-k] {
				t.Errorf("%s: got %v", call, mirror)
			}
		}
		back, code := impl.MirrorBlocks(mirror)
		expect(t, call+" and back", values(back, code), copyOf(arch), impl.OK)
		// Each list is new memory: what happens to it changes neither the argument nor another list.
		spoil(mirror.Loads, 5001)
		spoil(mirror.Low, 5002)
		spoil(mirror.High, 5003)
		if slices.Max(mirror.Loads) != 5001 || slices.Min(mirror.Loads) != 5001 || slices.Max(mirror.Low) != 5002 {
			t.Errorf("%s: two lists share memory", call)
		}
		unchanged(t, call)
		expect(t, "what was mirrored back", values(back), copyOf(arch))
	}
}

// TestArchesFromTheOtherSide: an arch has the same curvatures and the same thrust from the other side, and its lines are those from the other side.
func TestArchesFromTheOtherSide(t *testing.T) {
	stands := map[bool]int{}
	for _, b := range append(mixedArches(), edgeArches()...) {
		mirror, _ := impl.MirrorBlocks(b)
		can, code := impl.CanStand(b)
		expect(t, fmt.Sprintf("CanStand(%v)", mirror), values(impl.CanStand(mirror)), can, code)
		expect(t, fmt.Sprintf("CurvatureBounds(%v)", mirror), values(impl.CurvatureBounds(mirror)), values(impl.CurvatureBounds(b))...)
		expect(t, fmt.Sprintf("LeastThrust(%v)", mirror), values(impl.LeastThrust(mirror)), values(impl.LeastThrust(b))...)
		stands[can]++
		if line, den, code := impl.LineOfThrust(b); code == impl.OK {
			slices.Reverse(line)
			expect(t, fmt.Sprintf("IsLine(%v, %v, %d)", mirror, line, den), values(impl.IsLine(mirror, line, den)), true, impl.OK)
		}
	}
	expect(t, "there are both", values(stands[true] > 100, stands[false] > 100), true, true)
}

// TestThrustErrors: the errors of an arch, each beside zero values.
func TestThrustErrors(t *testing.T) {
	four := []int64{2, 0, 0, 1}
	for _, arch := range invalidArches() {
		b, unchanged := guardedBlocks(arch)
		call := fmt.Sprintf("the arch %v", arch)
		expect(t, call, values(impl.MomentsOf(b)), []int64(nil), impl.ErrInvalid)
		expect(t, call, values(impl.CanStand(b)), false, impl.ErrInvalid)
		expect(t, call, values(impl.CurvatureBounds(b)), impl.Fraction{}, impl.Fraction{}, impl.ErrInvalid)
		expect(t, call, values(impl.LeastThrust(b)), impl.Fraction{}, impl.ErrInvalid)
		expect(t, call, values(impl.LineOfThrust(b)), []int64(nil), 0, impl.ErrInvalid)
		expect(t, call, values(impl.WhyNot(b)), []int64(nil), []int64(nil), impl.ErrInvalid)
		expect(t, call, values(impl.MirrorBlocks(b)), impl.Blocks{}, impl.ErrInvalid)
		// It comes before all other errors.
		for _, list := range [][]int64{nil, four, {0, 3, 0}, {0}, {extremes[0], 0, 0}} {
			expect(t, call, values(impl.ProvesFall(b, list, list)), false, impl.ErrInvalid)
			expect(t, call, values(impl.ProvesFall(b, nil, list)), false, impl.ErrInvalid)
			expect(t, call, values(impl.ProvesFall(b, list, four)), false, impl.ErrInvalid)
			for _, den := range []int64{1, 0, extremes[0]} {
				expect(t, call, values(impl.IsLine(b, list, den)), false, impl.ErrInvalid)
			}
		}
		unchanged(t, call)
	}
}

// TestIsLineErrors: lines with a wrong number of elements, elements and denominators out of range.
func TestIsLineErrors(t *testing.T) {
	const most = 100000000000
	check := func(b impl.Blocks, line []int64, den, code int64) {
		t.Helper()
		expect(t, fmt.Sprintf("IsLine(%v, %v, %d)", b, line, den), values(impl.IsLine(b, line, den)), false, code)
	}
	dens := append(outside(1, 100000000), 0, -1, 100000001)
	for _, b := range []impl.Blocks{vault, sunk, pinned("1 1 1", "0 3 3 0"), wideArch(10, 1, -1000, 1000)} {
		right := make([]int64, len(b.Low))
		for _, line := range [][]int64{nil, {}, right[1:], right[:1], append(slices.Clone(right), 0), append(slices.Clone(right), right...), b.Low[1:], append(slices.Clone(b.Low), b.Low[0])} {
			for _, den := range append([]int64{1, 2, 100000000}, dens...) {
				check(b, line, den, impl.ErrRange)
			}
		}
		for _, den := range dens {
			check(b, right, den, impl.ErrRange)
			check(b, b.Low, den, impl.ErrRange)
		}
		for k := range right {
			for _, n := range append(outside(-most, most), -most-1, most+1) {
				for _, den := range append([]int64{1, 100000000}, dens...) {
					line := slices.Clone(right)
					line[k] = n
					check(b, line, den, impl.ErrRange)
				}
			}
			// At the limits of its range, a number is only too far off.
			for _, n := range []int64{-most, most} {
				line := slices.Clone(right)
				line[k] = n
				check(b, line, 1, impl.OK)
				check(b, line, 99999999, impl.OK)
			}
		}
		check(b, right, 1, impl.OK)
		check(b, right, 100000000, impl.OK)
	}
}

// TestPromise14Walls: a wall that is bonded keeps its lap everywhere, and in one that is not, the first perpends that are too near to each other are told.
func TestPromise14Walls(t *testing.T) {
	walls := mixedWalls()
	for _, name := range impl.BondNames() {
		bond, _ := impl.BondNamed(name)
		for length := int64(1); length <= 60; length++ {
			if wall, code := impl.LayWall(bond, length, 5); code == impl.OK {
				walls = append(walls, wall)
			}
		}
	}
	for length := int64(1); length <= impl.MaxPair; length += 3 {
		for lap := int64(1); lap <= 4; lap++ {
			if low, high, code := impl.BestPair(length, lap); code == impl.OK {
				wall, _ := impl.WallOf(low, high, 4)
				walls = append(walls, wall)
				expect(t, fmt.Sprintf("IsBonded(%q, %d)", wall, lap), values(impl.IsBonded(wall, lap)), true, impl.OK)
			}
		}
	}
	found := map[bool]int{}
	for _, wall := range walls {
		for lap := int64(1); lap <= 4; lap++ {
			first := wantedClash(wall, lap)
			bonded, code := impl.IsBonded(wall, lap)
			if bonded != (first == nil) || code != impl.OK {
				t.Errorf("IsBonded(%q, %d): got %t %d, want a clash at %v", wall, lap, bonded, code, first)
			}
			expectClash(t, wall, lap, first)
			found[bonded]++
		}
	}
	expect(t, "there are walls of both kinds", values(found[true] > 300, found[false] > 300), true, true)
}

// TestPromise14Courses: no course with the same length has fewer cuts than the best one, and none above a course without a clash.
func TestPromise14Courses(t *testing.T) {
	compared := 0
	for length := int64(1); length <= impl.MaxPair; length++ {
		best, code := impl.BestCourse(length)
		fewest, cutsCode := impl.FewestCuts(length)
		expect(t, fmt.Sprintf("the best course with the length %d", length), values(code, cutsCode, fewest), impl.OK, impl.OK, cutsOf(best))
		others := mixedWall(length, length, 30)
		for _, name := range impl.BondNames() {
			bond, _ := impl.BondNamed(name)
			for course := range int64(4) {
				if laid, code := impl.LayCourse(bond, course, length); code == impl.OK {
					others = append(others, laid)
				}
			}
		}
		for k, other := range others {
			compared++
			expect(t, fmt.Sprintf("the length of %q", other), values(impl.CourseLength(other)), length, impl.OK)
			if cuts, code := impl.CutsIn(other); code != impl.OK || cuts < fewest {
				t.Errorf("FewestCuts(%d): got %d, but %q has %d", length, fewest, other, cuts)
			}
			below := others[k*7%len(others)]
			lap := int64(1 + k%4)
			if bonded, _ := impl.IsBonded([]string{below, other}, lap); bonded {
				least, code := impl.CutsAbove(below, lap)
				if code != impl.OK || least > int64(cutsOf(other)) || least < fewest {
					t.Errorf("CutsAbove(%q, %d): got %d %d, but %q has %d", below, lap, least, code, other, cutsOf(other))
				}
			}
		}
	}
	expect(t, "there are many courses", values(compared > 2000), true)
}

// TestPromise14Arches: each arch either has a line of thrust, which is told, or joints are told that forbid one, and never both.
func TestPromise14Arches(t *testing.T) {
	r := roll(5)
	found := map[bool]int{}
	for k := range 900 {
		blocks := 2 + k%9
		b := []impl.Blocks{rolledCurve(r, blocks), rolledHeights(r, blocks), rolledPinned(r, blocks)}[k%3]
		stands, code := impl.CanStand(b)
		line, den, lineCode := impl.LineOfThrust(b)
		low, high, whyCode := impl.WhyNot(b)
		found[stands]++
		if stands {
			expect(t, fmt.Sprintf("the codes of %v", b), values(code, lineCode, whyCode), impl.OK, impl.OK, impl.ErrState)
			is, isCode := impl.IsLine(b, line, den)
			expect(t, fmt.Sprintf("IsLine(%v, %v, %d)", b, line, den), values(is, isCode, wantedIsLine(b, line, den)), true, impl.OK, true)
			continue
		}
		expect(t, fmt.Sprintf("the codes of %v", b), values(code, lineCode, whyCode), impl.OK, impl.ErrCracked, impl.OK)
		expect(t, fmt.Sprintf("%v and %v prove that %v falls", low, high, b), values(expectProven(t, b, low, high)), true)
		_, _, touches := touchingLines(b)
		expect(t, fmt.Sprintf("%v has a line that touches", b), values(touches), false)
	}
	expect(t, "there are arches of both kinds", values(found[true] > 200, found[false] > 200), true, true)
}

// TestPromise1Thrust: every function of chapter 13 returns for all arguments, modifies none of them, keeps none of its results, and returns equal results for equal arguments.
func TestPromise1Thrust(t *testing.T) {
	arches := append(validArches(), invalidArches()...)
	for _, a := range extremes {
		for _, c := range extremes {
			arches = append(arches, impl.Blocks{Loads: []int64{a, c}, Low: []int64{c, a, c}, High: []int64{a, c, a}}, impl.Blocks{Loads: []int64{1, 1}, Low: []int64{a, 0, a}, High: []int64{c, 0, c}})
		}
	}
	lists := [][]int64{nil, {}, {0, 3, 0}, {2, 0, 0, 1}, {1, 0, 1, 2}, extremes[:4], extremes[6:], extremes[:3], make([]int64, 11), slices.Repeat([]int64{extremes[0]}, 11), make([]int64, 500)}
	for k, arch := range arches {
		b, unchanged := guardedBlocks(arch)
		expectSameArch(t, b)
		for m, list := range lists {
			one, oneUnchanged := guarded(list, 77)
			other, otherUnchanged := guarded(lists[(m+k)%len(lists)], 78)
			expect(t, "ProvesFall", values(impl.ProvesFall(b, one, other)), values(impl.ProvesFall(b, one, other))...)
			for _, den := range append([]int64{100000000}, extremes...) {
				expect(t, "IsLine", values(impl.IsLine(b, one, den)), values(impl.IsLine(b, one, den))...)
			}
			oneUnchanged(t, "the first list")
			otherUnchanged(t, "the second list")
		}
		unchanged(t, "all functions of chapter 13")
	}
	// A nil list and an empty one are the same.
	expect(t, "ProvesFall without the first joints", values(impl.ProvesFall(sunk, nil, []int64{2, 0, 0, 1})), values(impl.ProvesFall(sunk, []int64{}, []int64{2, 0, 0, 1}))...)
}

// expectSameArch calls all functions of an arch twice, which need not be valid, and overwrites the lists that they return.
func expectSameArch(t *testing.T, b impl.Blocks) {
	t.Helper()
	again(t, "MomentsOf", 77, func() ([]int64, int64) { return impl.MomentsOf(b) })
	again(t, "LineOfThrust", 77, func() ([]int64, int64) {
		line, den, code := impl.LineOfThrust(b)
		if code != impl.OK {
			den = 0
		}
		return line, code<<40 + den
	})
	all := func() string {
		can, one := impl.CanStand(b)
		least, most, two := impl.CurvatureBounds(b)
		thrust, three := impl.LeastThrust(b)
		low, high, four := impl.WhyNot(b)
		mirror, five := impl.MirrorBlocks(b)
		text := fmt.Sprint(impl.ValidBlocks(b), can, one, least, most, two, thrust, three, low, high, four, mirror, five)
		spoil(low, 77)
		if slices.Contains(high, 77) {
			t.Errorf("WhyNot(%v): two lists share memory", b)
		}
		spoil(high, 77)
		spoil(mirror.Loads, 77)
		spoil(mirror.Low, 77)
		spoil(mirror.High, 77)
		return text
	}
	if first, second := all(), all(); first != second {
		t.Errorf("the arch %v: got %s and %s", b, first, second)
	}
}
