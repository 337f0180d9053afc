package tests

import (
	"fmt"
	"math/big"
	"slices"
	"strings"
	"testing"

	"loop.example/g01042/impl"
)

// red and fat are the clays of the example of chapter 3; marl has no shrinkage, and void is 0 everywhere.
var (
	red  = impl.Clay{Name: "red", Shrink: 60, Lime: 50, Sand: 200, Price: 40}
	fat  = impl.Clay{Name: "fat", Shrink: 100, Lime: 10, Sand: 100, Price: 20}
	marl = impl.Clay{Name: "marl", Shrink: 0, Lime: 400, Sand: 30, Price: 10}
	void = impl.Clay{Name: "void"}
	most = impl.Clay{Name: "abcdefgh-012", Shrink: 200, Lime: 1000, Sand: 1000, Price: 10000}
	last = impl.Clay{Name: "z", Shrink: 77, Lime: 1, Sand: 999, Price: 9999}
)

// allLimits are kept by every blend.
var allLimits = impl.Limits{LowShrink: 0, HighShrink: 1000, MostLime: 1000, MostSand: 1000}

// validLists are lists of 0 to MaxClays clays.
func validLists() [][]impl.Clay {
	return [][]impl.Clay{
		nil, {}, {red}, {void}, {most}, {red, fat}, {fat, red}, {void, most}, {most, void}, {red, fat, marl}, {marl, last, fat, void},
		{last, most, void, marl, fat}, {red, fat, marl, void, most, last}, {last, most, void, marl, fat, red},
	}
}

// invalidClays have one fault each.
func invalidClays() []impl.Clay {
	list := []impl.Clay{
		{}, {Shrink: 60, Lime: 50, Sand: 200, Price: 40},
		{Name: "red", Shrink: -1}, {Name: "red", Shrink: 201}, {Name: "red", Lime: -1}, {Name: "red", Lime: 1001},
		{Name: "red", Sand: -1}, {Name: "red", Sand: 1001}, {Name: "red", Price: -1}, {Name: "red", Price: 10001},
	}
	for _, name := range []string{"Red", "1red", "-red", "red clay", "red ", " red", "red.", "abcdefgh-0123", "r\xff", "röt", "red\n", "red\x00"} {
		list = append(list, impl.Clay{Name: name, Shrink: 60, Lime: 50, Sand: 200, Price: 40})
	}
	for _, n := range extremes {
		if n != 0 && n != 1 {
			list = append(list, impl.Clay{Name: "red", Shrink: n}, impl.Clay{Name: "red", Lime: n}, impl.Clay{Name: "red", Sand: n}, impl.Clay{Name: "red", Price: n})
		}
	}
	return list
}

// invalidLists have an invalid clay at any place, equal names, or a clay too many.
func invalidLists() [][]impl.Clay {
	lists := [][]impl.Clay{
		{red, red}, {red, fat, red}, {fat, red, red}, {red, fat, marl, void, most, red}, {red, {Name: "red", Shrink: 1}},
		{red, fat, marl, void, most, last, {Name: "seventh"}}, {red, fat, marl, void, most, last, red}, make([]impl.Clay, 1), make([]impl.Clay, 7),
	}
	for _, c := range invalidClays() {
		lists = append(lists, []impl.Clay{c}, []impl.Clay{c, fat}, []impl.Clay{fat, c}, []impl.Clay{fat, marl, void, most, last, c}, []impl.Clay{fat, c, marl})
	}
	return lists
}

// invalidLimits have one fault each.
func invalidLimits() []impl.Limits {
	list := []impl.Limits{
		{LowShrink: -1, HighShrink: 80, MostLime: 45, MostSand: 180}, {LowShrink: 81, HighShrink: 80, MostLime: 45, MostSand: 180},
		{LowShrink: 65, HighShrink: 1001, MostLime: 45, MostSand: 180}, {LowShrink: 1001, HighShrink: 1001, MostLime: 45, MostSand: 180},
		{LowShrink: 1, HighShrink: 0, MostLime: 45, MostSand: 180}, {LowShrink: -1, HighShrink: -1, MostLime: 45, MostSand: 180},
		{LowShrink: 65, HighShrink: 80, MostLime: -1, MostSand: 180}, {LowShrink: 65, HighShrink: 80, MostLime: 1001, MostSand: 180},
		{LowShrink: 65, HighShrink: 80, MostLime: 45, MostSand: -1}, {LowShrink: 65, HighShrink: 80, MostLime: 45, MostSand: 1001},
	}
	for _, n := range extremes {
		if n != 0 && n != 1 {
			list = append(list,
				impl.Limits{LowShrink: n, HighShrink: 1000}, impl.Limits{LowShrink: 0, HighShrink: n}, impl.Limits{LowShrink: n, HighShrink: n},
				impl.Limits{MostLime: n}, impl.Limits{MostSand: n})
		}
	}
	return list
}

// partsFor returns parts of n clays that are right: ordinary ones, those at the limits, and those with 0 at each place.
func partsFor(n int) [][]int64 {
	if n == 0 {
		return nil
	}
	lists := [][]int64{slices.Repeat([]int64{1}, n), slices.Repeat([]int64{1000}, n), slices.Repeat([]int64{7}, n)}
	rising, even := make([]int64, n), make([]int64, n)
	for k := range n {
		rising[k], even[k] = int64(k), int64(6*k+6)
		one := make([]int64, n)
		one[k] = int64(3*k + 1)
		gap := slices.Repeat([]int64{4}, n)
		gap[k] = 0
		full := slices.Clone(gap)
		full[k] = 1000
		lists = append(lists, one, gap, full)
	}
	lists = append(lists, rising, even)
	return slices.DeleteFunc(lists, func(parts []int64) bool { return slices.Max(parts) == 0 })
}

// wrongPartsFor returns parts that are none of n clays.
func wrongPartsFor(n int) [][]int64 {
	lists := [][]int64{slices.Repeat([]int64{1}, n+1), slices.Repeat([]int64{0}, n+1), slices.Repeat([]int64{1}, n+7)}
	if n > 0 {
		lists = append(lists, nil, slices.Repeat([]int64{1}, n-1), slices.Repeat([]int64{0}, n-1))
	}
	for k := range n {
		for _, wrong := range append([]int64{-2, -1000, 1001, 1002}, extremes...) {
			if wrong != 0 && wrong != 1 {
				zeros, ones := make([]int64, n), slices.Repeat([]int64{1}, n)
				zeros[k], ones[k] = wrong, wrong
				lists = append(lists, zeros, ones)
			}
		}
	}
	return lists
}

// exact returns a value of a blend by fractions of any size.
func exact(list []impl.Clay, parts []int64, valueOf func(impl.Clay) int64) *big.Rat {
	whole, sum := new(big.Rat), new(big.Rat)
	for k, c := range list {
		n := new(big.Rat).SetInt64(parts[k])
		whole.Add(whole, n)
		sum.Add(sum, n.Mul(n, new(big.Rat).SetInt64(valueOf(c))))
	}
	return sum.Quo(sum, whole)
}

func shrinkOf(c impl.Clay) int64 { return c.Shrink }
func limeOf(c impl.Clay) int64   { return c.Lime }
func sandOf(c impl.Clay) int64   { return c.Sand }
func priceOf(c impl.Clay) int64  { return c.Price }

// fraction returns a value in lowest terms.
func fraction(x *big.Rat) impl.Fraction {
	return impl.Fraction{Num: x.Num().Int64(), Den: x.Denom().Int64()}
}

func TestClayConstants(t *testing.T) {
	expect(t, "constants", values(impl.MaxClays, impl.MaxParts, impl.MaxPrice), 6, 12, 10000)
}

func TestValidClays(t *testing.T) {
	for _, list := range validLists() {
		expect(t, fmt.Sprintf("ValidClays(%v)", list), values(impl.ValidClays(list)), true)
	}
	for _, list := range invalidLists() {
		expect(t, fmt.Sprintf("ValidClays(%v)", list), values(impl.ValidClays(list)), false)
	}
}

// TestValidClaysAtEachEdge moves one field at a time over its limits.
func TestValidClaysAtEachEdge(t *testing.T) {
	for n := int64(-300); n <= 10300; n++ {
		valid := func(c impl.Clay) bool { return impl.ValidClays([]impl.Clay{fat, c}) }
		expect(t, fmt.Sprintf("Shrink %d", n), values(valid(impl.Clay{Name: "c", Shrink: n})), 0 <= n && n <= 200)
		expect(t, fmt.Sprintf("Lime %d", n), values(valid(impl.Clay{Name: "c", Lime: n})), 0 <= n && n <= 1000)
		expect(t, fmt.Sprintf("Sand %d", n), values(valid(impl.Clay{Name: "c", Sand: n})), 0 <= n && n <= 1000)
		expect(t, fmt.Sprintf("Price %d", n), values(valid(impl.Clay{Name: "c", Price: n})), 0 <= n && n <= 10000)
	}
}

func TestSameClays(t *testing.T) {
	lists := append(validLists()[1:], invalidLists()...)
	for a, one := range lists {
		for b, other := range lists {
			same := len(one) == len(other) && fmt.Sprintf("%#v", one) == fmt.Sprintf("%#v", other)
			expect(t, fmt.Sprintf("SameClays of %d and %d", a, b), values(impl.SameClays(one, slices.Clone(other))), same)
		}
	}
	expect(t, "SameClays of nil and no clays", values(impl.SameClays(nil, []impl.Clay{}), impl.SameClays([]impl.Clay{}, nil), impl.SameClays(nil, nil)), true, true, true)
	changed := []impl.Clay{
		{Name: "rad", Shrink: 60, Lime: 50, Sand: 200, Price: 40}, {Name: "red", Shrink: 61, Lime: 50, Sand: 200, Price: 40}, {Name: "red", Shrink: 60, Lime: 51, Sand: 200, Price: 40},
		{Name: "red", Shrink: 60, Lime: 50, Sand: 201, Price: 40}, {Name: "red", Shrink: 60, Lime: 50, Sand: 200, Price: 41}, fat,
	}
	for _, c := range changed {
		expect(t, fmt.Sprintf("SameClays with %v", c), values(impl.SameClays([]impl.Clay{fat, red}, []impl.Clay{fat, c}), impl.SameClays([]impl.Clay{c}, []impl.Clay{red})), false, false)
	}
	expect(t, "SameClays of a part", values(impl.SameClays([]impl.Clay{red}, []impl.Clay{red, fat}), impl.SameClays([]impl.Clay{red, fat}, []impl.Clay{red})), false, false)
	expect(t, "SameClays in another order", values(impl.SameClays([]impl.Clay{red, fat}, []impl.Clay{fat, red})), false)
}

func TestAddClay(t *testing.T) {
	all := []impl.Clay{red, fat, marl, void, most, last}
	for n := range impl.MaxClays {
		list, unchanged := guarded(all[:n], most)
		call := fmt.Sprintf("AddClay to %d", n)
		got, code := impl.AddClay(list, all[n])
		expect(t, call, values(got, code), all[:n+1], impl.OK)
		expect(t, call+" is valid", values(impl.ValidClays(got)), true)
		unchanged(t, call)
		spoil(got, impl.Clay{Name: "spoilt"})
		unchanged(t, call)
	}
	expect(t, "AddClay at the least values", values(impl.AddClay(nil, impl.Clay{Name: "a"})), []impl.Clay{{Name: "a"}}, impl.OK)
}

func TestAddClayErrors(t *testing.T) {
	none := []impl.Clay(nil)
	six := []impl.Clay{red, fat, marl, void, most, last}
	more := impl.Clay{Name: "more"}
	for _, list := range invalidLists() {
		for _, c := range append(invalidClays(), more, red, fat) {
			expect(t, fmt.Sprintf("AddClay(%v, %v)", list, c), values(impl.AddClay(list, c)), none, impl.ErrInvalid)
		}
	}
	for _, list := range validLists() {
		for _, c := range invalidClays() {
			expect(t, fmt.Sprintf("AddClay(%v, %v)", list, c), values(impl.AddClay(list, c)), none, impl.ErrRange)
		}
		for _, c := range list {
			expect(t, fmt.Sprintf("AddClay(%v, %v)", list, c), values(impl.AddClay(list, c)), none, impl.ErrExists)
			other := impl.Clay{Name: c.Name, Shrink: 5, Lime: 6, Sand: 7, Price: 8}
			expect(t, fmt.Sprintf("AddClay(%v, %v)", list, other), values(impl.AddClay(list, other)), none, impl.ErrExists)
		}
	}
	expect(t, "AddClay to six", values(impl.AddClay(six, more)), none, impl.ErrFull)
	expect(t, "AddClay with the name of the sixth", values(impl.AddClay(six, last)), none, impl.ErrExists)
}

func TestBlendValues(t *testing.T) {
	list := []impl.Clay{red, fat, marl}
	known := []struct {
		parts               []int64
		shrink, lime, price impl.Fraction
	}{
		{[]int64{1, 0, 0}, impl.Fraction{Num: 60, Den: 1}, impl.Fraction{Num: 50, Den: 1}, impl.Fraction{Num: 40, Den: 1}},
		{[]int64{0, 1000, 0}, impl.Fraction{Num: 100, Den: 1}, impl.Fraction{Num: 10, Den: 1}, impl.Fraction{Num: 20, Den: 1}},
		{[]int64{0, 0, 7}, impl.Fraction{Num: 0, Den: 1}, impl.Fraction{Num: 400, Den: 1}, impl.Fraction{Num: 10, Den: 1}},
		{[]int64{6, 2, 0}, impl.Fraction{Num: 70, Den: 1}, impl.Fraction{Num: 40, Den: 1}, impl.Fraction{Num: 35, Den: 1}},
		{[]int64{1, 2, 0}, impl.Fraction{Num: 260, Den: 3}, impl.Fraction{Num: 70, Den: 3}, impl.Fraction{Num: 80, Den: 3}},
		{[]int64{1, 1, 1}, impl.Fraction{Num: 160, Den: 3}, impl.Fraction{Num: 460, Den: 3}, impl.Fraction{Num: 70, Den: 3}},
		{[]int64{0, 1, 999}, impl.Fraction{Num: 1, Den: 10}, impl.Fraction{Num: 39961, Den: 100}, impl.Fraction{Num: 1001, Den: 100}},
	}
	for _, k := range known {
		expect(t, fmt.Sprintf("ShrinkOf(%v)", k.parts), values(impl.ShrinkOf(list, k.parts)), k.shrink, impl.OK)
		expect(t, fmt.Sprintf("LimeOf(%v)", k.parts), values(impl.LimeOf(list, k.parts)), k.lime, impl.OK)
		expect(t, fmt.Sprintf("BlendPrice(%v)", k.parts), values(impl.BlendPrice(list, k.parts)), k.price, impl.OK)
	}
}

func TestBlendValuesInLowestTerms(t *testing.T) {
	for _, clays := range validLists() {
		list, unchanged := guarded(clays, most)
		for _, numbers := range partsFor(len(list)) {
			parts, partsUnchanged := guarded(numbers, 9)
			call := fmt.Sprintf("a value of %v in %v", list, parts)
			expect(t, call, values(impl.ShrinkOf(list, parts)), fraction(exact(list, parts, shrinkOf)), impl.OK)
			expect(t, call, values(impl.LimeOf(list, parts)), fraction(exact(list, parts, limeOf)), impl.OK)
			expect(t, call, values(impl.BlendPrice(list, parts)), fraction(exact(list, parts, priceOf)), impl.OK)
			unchanged(t, call)
			partsUnchanged(t, call)
		}
	}
}

// TestBlendErrors: the errors of all functions of parts, in their order, each beside zero values.
func TestBlendErrors(t *testing.T) {
	check := func(list []impl.Clay, parts []int64, code int64) {
		t.Helper()
		call := fmt.Sprintf("of %v in %v", list, parts)
		expect(t, "ShrinkOf "+call, values(impl.ShrinkOf(list, parts)), impl.Fraction{}, code)
		expect(t, "LimeOf "+call, values(impl.LimeOf(list, parts)), impl.Fraction{}, code)
		expect(t, "BlendPrice "+call, values(impl.BlendPrice(list, parts)), impl.Fraction{}, code)
		expect(t, "LeastParts "+call, values(impl.LeastParts(list, parts)), []int64(nil), code)
		expect(t, "BlendFault "+call, values(impl.BlendFault(list, parts, allLimits)), "", code)
	}
	for _, list := range invalidLists() {
		check(list, make([]int64, len(list)), impl.ErrInvalid)
		check(list, slices.Repeat([]int64{1}, len(list)), impl.ErrInvalid)
		check(list, slices.Repeat([]int64{-1}, len(list)), impl.ErrInvalid)
		check(list, nil, impl.ErrInvalid)
		check(list, make([]int64, len(list)+1), impl.ErrInvalid)
	}
	for _, list := range validLists() {
		for _, parts := range wrongPartsFor(len(list)) {
			check(list, parts, impl.ErrRange)
		}
		check(list, make([]int64, len(list)), impl.ErrState)
	}
	check(nil, []int64{}, impl.ErrState)
	check([]impl.Clay{}, nil, impl.ErrState)
}

func TestBlendFault(t *testing.T) {
	list := []impl.Clay{red, fat, marl}
	x := impl.Limits{LowShrink: 65, HighShrink: 85, MostLime: 45, MostSand: 180}
	known := []struct {
		parts []int64
		x     impl.Limits
		fault string
	}{
		{[]int64{1, 0, 0}, x, "little"}, {[]int64{0, 1, 0}, x, "much"}, {[]int64{6, 2, 0}, x, "none"}, {[]int64{3, 5, 0}, x, "none"}, {[]int64{3, 6, 0}, x, "much"},
		{[]int64{7, 1, 0}, impl.Limits{LowShrink: 65, HighShrink: 85, MostLime: 45, MostSand: 187}, "sand"},
		{[]int64{7, 1, 0}, impl.Limits{LowShrink: 65, HighShrink: 85, MostLime: 45, MostSand: 188}, "none"},
		{[]int64{7, 1, 0}, impl.Limits{LowShrink: 65, HighShrink: 85, MostLime: 44, MostSand: 187}, "lime"},
		// the first one of several
		{[]int64{1, 0, 0}, impl.Limits{LowShrink: 61, HighShrink: 61}, "little"}, {[]int64{1, 0, 0}, impl.Limits{LowShrink: 0, HighShrink: 59}, "much"},
		{[]int64{1, 0, 0}, impl.Limits{LowShrink: 60, HighShrink: 60}, "lime"}, {[]int64{1, 0, 0}, impl.Limits{LowShrink: 60, HighShrink: 60, MostLime: 50}, "sand"},
		{[]int64{1, 0, 0}, impl.Limits{LowShrink: 60, HighShrink: 60, MostLime: 50, MostSand: 200}, "none"},
		// values just beyond a limit that are no whole numbers
		{[]int64{999, 1, 0}, impl.Limits{LowShrink: 60, HighShrink: 60, MostLime: 1000, MostSand: 1000}, "much"},
		{[]int64{999, 1, 0}, impl.Limits{LowShrink: 61, HighShrink: 61, MostLime: 1000, MostSand: 1000}, "little"},
		{[]int64{1, 999, 0}, impl.Limits{LowShrink: 0, HighShrink: 100, MostLime: 10, MostSand: 1000}, "lime"},
		{[]int64{1, 999, 0}, impl.Limits{LowShrink: 0, HighShrink: 100, MostLime: 11, MostSand: 100}, "sand"},
		{[]int64{1, 999, 0}, impl.Limits{LowShrink: 99, HighShrink: 100, MostLime: 11, MostSand: 101}, "none"},
		// clays without parts do not count
		{[]int64{0, 0, 5}, impl.Limits{LowShrink: 0, HighShrink: 0, MostLime: 400, MostSand: 30}, "none"},
		{[]int64{0, 0, 5}, impl.Limits{LowShrink: 1, HighShrink: 1, MostLime: 400, MostSand: 30}, "little"},
		{[]int64{0, 0, 5}, impl.Limits{LowShrink: 0, HighShrink: 0, MostLime: 399, MostSand: 30}, "lime"},
		{[]int64{0, 0, 5}, impl.Limits{LowShrink: 0, HighShrink: 0, MostLime: 400, MostSand: 29}, "sand"},
	}
	for _, k := range known {
		expect(t, fmt.Sprintf("BlendFault(%v, %v)", k.parts, k.x), values(impl.BlendFault(list, k.parts, k.x)), k.fault, impl.OK)
	}
	greatest := impl.Limits{LowShrink: 200, HighShrink: 200, MostLime: 1000, MostSand: 1000}
	expect(t, "BlendFault at the greatest values", values(impl.BlendFault([]impl.Clay{most}, []int64{1000}, greatest)), "none", impl.OK)
	expect(t, "BlendFault at the greatest limits", values(impl.BlendFault([]impl.Clay{most}, []int64{1}, impl.Limits{LowShrink: 1000, HighShrink: 1000})), "little", impl.OK)
	expect(t, "BlendFault at the least values", values(impl.BlendFault([]impl.Clay{void}, []int64{1}, impl.Limits{})), "none", impl.OK)
}

// wantedFault tells the first limit that is not kept, by fractions of any size.
func wantedFault(list []impl.Clay, parts []int64, x impl.Limits) string {
	compare := func(valueOf func(impl.Clay) int64, limit int64) int {
		return exact(list, parts, valueOf).Cmp(new(big.Rat).SetInt64(limit))
	}
	if compare(shrinkOf, x.LowShrink) < 0 {
		return "little"
	}
	if compare(shrinkOf, x.HighShrink) > 0 {
		return "much"
	}
	if compare(limeOf, x.MostLime) > 0 {
		return "lime"
	}
	if compare(sandOf, x.MostSand) > 0 {
		return "sand"
	}
	return "none"
}

// limitsAbout returns limits just at the values of a blend, and just beyond them on both sides.
func limitsAbout(list []impl.Clay, parts []int64) []impl.Limits {
	floor := func(valueOf func(impl.Clay) int64) int64 {
		x := exact(list, parts, valueOf)
		return new(big.Int).Quo(x.Num(), x.Denom()).Int64()
	}
	within := func(n int64) int64 { return min(max(n, 0), 1000) }
	shrink, lime, sand := floor(shrinkOf), floor(limeOf), floor(sandOf)
	var list2 []impl.Limits
	for low := shrink - 1; low <= shrink+2; low++ {
		for high := low; high <= shrink+2; high++ {
			for d := int64(-1); d <= 1; d++ {
				list2 = append(list2,
					impl.Limits{LowShrink: within(low), HighShrink: within(high), MostLime: within(lime + d), MostSand: within(sand + 1)},
					impl.Limits{LowShrink: within(low), HighShrink: within(high), MostLime: within(lime + 1), MostSand: within(sand + d)})
			}
		}
	}
	return list2
}

func TestBlendFaultAboutEachLimit(t *testing.T) {
	for _, clays := range validLists() {
		list, unchanged := guarded(clays, most)
		for _, numbers := range partsFor(len(list)) {
			parts, partsUnchanged := guarded(numbers, 9)
			for _, x := range limitsAbout(list, parts) {
				call := fmt.Sprintf("BlendFault(%v, %v, %v)", list, parts, x)
				expect(t, call, values(impl.BlendFault(list, parts, x)), wantedFault(list, parts, x), impl.OK)
				unchanged(t, call)
				partsUnchanged(t, call)
			}
		}
	}
}

// TestLimits: limits that are none are told after an invalid list, and before a blend without parts.
func TestLimits(t *testing.T) {
	list := []impl.Clay{red, fat}
	none := []int64(nil)
	for _, x := range invalidLimits() {
		expect(t, fmt.Sprintf("BlendFault with %v", x), values(impl.BlendFault(list, []int64{6, 2}, x)), "", impl.ErrRange)
		expect(t, fmt.Sprintf("BlendFault with %v, no parts", x), values(impl.BlendFault(list, []int64{0, 0}, x)), "", impl.ErrRange)
		expect(t, fmt.Sprintf("BlendFault with %v, wrong parts", x), values(impl.BlendFault(list, []int64{-1, 0}, x)), "", impl.ErrRange)
		expect(t, fmt.Sprintf("BlendFault with %v, no clays", x), values(impl.BlendFault(nil, nil, x)), "", impl.ErrRange)
		expect(t, fmt.Sprintf("BlendFault with %v, wrong list", x), values(impl.BlendFault([]impl.Clay{red, red}, []int64{6, 2}, x)), "", impl.ErrInvalid)
		expect(t, fmt.Sprintf("CheapestBlend with %v", x), values(impl.CheapestBlend(list, 8, x)), none, impl.ErrRange)
		expect(t, fmt.Sprintf("CheapestBlend with %v, no clays", x), values(impl.CheapestBlend(nil, 8, x)), none, impl.ErrRange)
		expect(t, fmt.Sprintf("CheapestBlend with %v, wrong list", x), values(impl.CheapestBlend([]impl.Clay{red, red}, 8, x)), none, impl.ErrInvalid)
		expect(t, fmt.Sprintf("CountBlends with %v", x), values(impl.CountBlends(list, 8, x)), 0, impl.ErrRange)
		expect(t, fmt.Sprintf("CountBlends with %v, no clays", x), values(impl.CountBlends(nil, 8, x)), 0, impl.ErrRange)
		expect(t, fmt.Sprintf("CountBlends with %v, wrong list", x), values(impl.CountBlends([]impl.Clay{red, red}, 8, x)), 0, impl.ErrInvalid)
	}
	for _, n := range []int64{0, 1, 999, 1000} {
		x := impl.Limits{LowShrink: n, HighShrink: n, MostLime: n, MostSand: n}
		expect(t, fmt.Sprintf("CountBlends with %v", x), values(impl.CountBlends(nil, 1, x)), 0, impl.OK)
		expect(t, fmt.Sprintf("BlendFault with %v", x), values(impl.BlendFault([]impl.Clay{fat}, []int64{0}, x)), "", impl.ErrState)
	}
}

func TestBlendOfTwo(t *testing.T) {
	known := []struct{ shrink, ofRed, ofFat int64 }{{60, 1, 0}, {61, 39, 1}, {70, 3, 1}, {75, 5, 3}, {80, 1, 1}, {90, 1, 3}, {99, 1, 39}, {100, 0, 1}}
	for _, k := range known {
		expect(t, fmt.Sprintf("BlendOfTwo(red, fat, %d)", k.shrink), values(impl.BlendOfTwo(red, fat, k.shrink)), k.ofRed, k.ofFat, impl.OK)
		expect(t, fmt.Sprintf("BlendOfTwo(fat, red, %d)", k.shrink), values(impl.BlendOfTwo(fat, red, k.shrink)), k.ofFat, k.ofRed, impl.OK)
	}
	expect(t, "BlendOfTwo, ends", values(impl.BlendOfTwo(void, most, 0)), 1, 0, impl.OK)
	expect(t, "BlendOfTwo, ends", values(impl.BlendOfTwo(void, most, 200)), 0, 1, impl.OK)
	expect(t, "BlendOfTwo, just inside", values(impl.BlendOfTwo(void, most, 1)), 199, 1, impl.OK)
	expect(t, "BlendOfTwo with one name", values(impl.BlendOfTwo(red, impl.Clay{Name: "red", Shrink: 100}, 70)), 3, 1, impl.OK)
}

// TestBlendOfTwoExample is the example of the chapter.
func TestBlendOfTwoExample(t *testing.T) {
	expect(t, "ShrinkOf", values(impl.ShrinkOf([]impl.Clay{red, fat}, []int64{3, 1})), impl.Fraction{Num: 70, Den: 1}, impl.OK)
	expect(t, "BlendOfTwo", values(impl.BlendOfTwo(red, fat, 70)), 3, 1, impl.OK)
}

// TestPromise3TwoClays: two clays have the shrinkage that is wanted, and there is no blend if it is outside of both.
func TestPromise3TwoClays(t *testing.T) {
	shrinks := []int64{0, 1, 2, 3, 7, 30, 59, 60, 61, 99, 100, 101, 120, 198, 199, 200}
	for _, one := range shrinks {
		for _, other := range shrinks {
			a, b := impl.Clay{Name: "a", Shrink: one, Price: 3}, impl.Clay{Name: "b", Shrink: other, Lime: 4}
			for shrink := int64(0); shrink <= 200; shrink++ {
				call := fmt.Sprintf("BlendOfTwo(%d, %d, %d)", one, other, shrink)
				ofA, ofB, code := impl.BlendOfTwo(a, b, shrink)
				switch {
				case one == other:
					expect(t, call, values(ofA, ofB, code), 0, 0, impl.ErrState)
				case shrink < min(one, other) || shrink > max(one, other):
					expect(t, call, values(ofA, ofB, code), 0, 0, impl.ErrNotFound)
				default:
					expect(t, call, values(code, ofA >= 0, ofB >= 0), impl.OK, true, true)
					got, code := impl.ShrinkOf([]impl.Clay{a, b}, []int64{ofA, ofB})
					expect(t, call+" shrinks by", values(got, code), impl.Fraction{Num: shrink, Den: 1}, impl.OK)
					divisor := new(big.Int).GCD(nil, nil, big.NewInt(ofA), big.NewInt(ofB)).Int64()
					expect(t, call+" has the divisor", values(divisor), 1)
				}
			}
		}
	}
}

func TestBlendOfTwoErrors(t *testing.T) {
	outside := append([]int64{-200, 201, 202, 1000}, extremes...)
	for _, c := range invalidClays() {
		for _, shrink := range append([]int64{70, 200}, outside...) {
			expect(t, fmt.Sprintf("BlendOfTwo(%v, fat, %d)", c, shrink), values(impl.BlendOfTwo(c, fat, shrink)), 0, 0, impl.ErrInvalid)
			expect(t, fmt.Sprintf("BlendOfTwo(fat, %v, %d)", c, shrink), values(impl.BlendOfTwo(fat, c, shrink)), 0, 0, impl.ErrInvalid)
			expect(t, fmt.Sprintf("BlendOfTwo of %v twice, %d", c, shrink), values(impl.BlendOfTwo(c, c, shrink)), 0, 0, impl.ErrInvalid)
		}
	}
	for _, shrink := range outside {
		if shrink != 0 && shrink != 1 {
			expect(t, fmt.Sprintf("BlendOfTwo(red, fat, %d)", shrink), values(impl.BlendOfTwo(red, fat, shrink)), 0, 0, impl.ErrRange)
			expect(t, fmt.Sprintf("BlendOfTwo(red, red, %d)", shrink), values(impl.BlendOfTwo(red, red, shrink)), 0, 0, impl.ErrRange)
		}
	}
	for _, shrink := range []int64{0, 59, 60, 61, 200} {
		expect(t, fmt.Sprintf("BlendOfTwo(red, red, %d)", shrink), values(impl.BlendOfTwo(red, red, shrink)), 0, 0, impl.ErrState)
	}
	for _, shrink := range []int64{0, 59, 101, 200} {
		expect(t, fmt.Sprintf("BlendOfTwo(red, fat, %d)", shrink), values(impl.BlendOfTwo(red, fat, shrink)), 0, 0, impl.ErrNotFound)
		expect(t, fmt.Sprintf("BlendOfTwo(fat, red, %d)", shrink), values(impl.BlendOfTwo(fat, red, shrink)), 0, 0, impl.ErrNotFound)
	}
}

// wantedBlends goes through all numbers with a digit for each clay: the parts that keep limits, and the first ones of the cheapest.
func wantedBlends(list []impl.Clay, total int64, x impl.Limits) (best []int64, count int64) {
	parts := make([]int64, len(list))
	price := int64(-1)
	for {
		whole, cost := int64(0), int64(0)
		for k, n := range parts {
			whole += n
			cost += n * list[k].Price
		}
		if whole == total && wantedFault(list, parts, x) == "none" {
			count++
			if price < 0 || cost < price {
				best, price = slices.Clone(parts), cost
			}
		}
		k := len(parts) - 1
		for ; k >= 0 && parts[k] == total; k-- {
			parts[k] = 0
		}
		if k < 0 {
			return best, count
		}
		parts[k]++
	}
}

// blendLimits are limits of several kinds: wide and narrow ones, and such as nothing keeps.
func blendLimits() []impl.Limits {
	return []impl.Limits{
		allLimits, {}, {LowShrink: 65, HighShrink: 85, MostLime: 45, MostSand: 180}, {LowShrink: 70, HighShrink: 70, MostLime: 1000, MostSand: 1000},
		{LowShrink: 0, HighShrink: 60, MostLime: 300, MostSand: 100}, {LowShrink: 50, HighShrink: 150, MostLime: 500, MostSand: 500},
		{LowShrink: 60, HighShrink: 60, MostLime: 50, MostSand: 200}, {LowShrink: 1000, HighShrink: 1000, MostLime: 1000, MostSand: 1000},
		{LowShrink: 200, HighShrink: 200, MostLime: 1000, MostSand: 1000}, {LowShrink: 0, HighShrink: 200, MostLime: 0, MostSand: 0},
	}
}

// TestPromise3CheapestBlend: the cheapest blend keeps the limits, and none that keeps them is cheaper, or as cheap and before it.
func TestPromise3CheapestBlend(t *testing.T) {
	twins := []impl.Clay{{Name: "a", Shrink: 60, Price: 7}, {Name: "b", Shrink: 60, Price: 7}, {Name: "c", Shrink: 80, Price: 7}}
	free := []impl.Clay{{Name: "a", Shrink: 60}, {Name: "b", Shrink: 80}, {Name: "c", Shrink: 100}}
	for _, clays := range append(validLists(), twins, free) {
		list, unchanged := guarded(clays, most)
		greatest := []int64{12, 12, 12, 12, 7, 5, 4}[len(list)]
		for total := int64(1); total <= greatest; total++ {
			for _, x := range blendLimits() {
				call := fmt.Sprintf("CheapestBlend(%v, %d, %v)", list, total, x)
				best, count := wantedBlends(list, total, x)
				got, code := impl.CheapestBlend(list, total, x)
				if count == 0 {
					expect(t, call, values(got, code), []int64(nil), impl.ErrNotFound)
				} else {
					expect(t, call, values(got, code), best, impl.OK)
					expect(t, call+" has the fault", values(impl.BlendFault(list, got, x)), "none", impl.OK)
				}
				expect(t, "CountBlends of "+call, values(impl.CountBlends(list, total, x)), count, impl.OK)
				unchanged(t, call)
			}
		}
	}
}

func TestCheapestBlend(t *testing.T) {
	list := []impl.Clay{red, fat}
	x := impl.Limits{LowShrink: 65, HighShrink: 85, MostLime: 45, MostSand: 180}
	expect(t, "CheapestBlend", values(impl.CheapestBlend(list, 8, x)), []int64{3, 5}, impl.OK)
	expect(t, "CountBlends", values(impl.CountBlends(list, 8, x)), 4, impl.OK)
	expect(t, "CheapestBlend of 1", values(impl.CheapestBlend(list, 1, x)), []int64(nil), impl.ErrNotFound)
	expect(t, "CountBlends of 1", values(impl.CountBlends(list, 1, x)), 0, impl.OK)
	// the first ones of several with the least price have the least numbers in front
	equal := []impl.Clay{{Name: "a", Price: 5}, {Name: "b", Price: 5}, {Name: "c", Price: 9}}
	expect(t, "CheapestBlend of equal prices", values(impl.CheapestBlend(equal, 12, allLimits)), []int64{0, 12, 0}, impl.OK)
	mean := []impl.Clay{{Name: "a", Price: 4}, {Name: "b", Price: 5}, {Name: "c", Price: 6, Shrink: 60}, {Name: "d", Price: 5, Shrink: 60}}
	half := impl.Limits{LowShrink: 30, HighShrink: 30, MostLime: 1000, MostSand: 1000}
	expect(t, "CheapestBlend of half", values(impl.CheapestBlend(mean, 4, half)), []int64{2, 0, 0, 2}, impl.OK)
	expect(t, "CheapestBlend of 1", values(impl.CheapestBlend(equal, 1, allLimits)), []int64{0, 1, 0}, impl.OK)
	// all blends of six clays
	six := []impl.Clay{red, fat, marl, void, most, last}
	expect(t, "CountBlends of six", values(impl.CountBlends(six, 12, allLimits)), 6188, impl.OK)
	expect(t, "CheapestBlend of six", values(impl.CheapestBlend(six, 12, allLimits)), []int64{0, 0, 0, 12, 0, 0}, impl.OK)
	expect(t, "CheapestBlend of six, the last one of all", values(impl.CheapestBlend(six, 12, impl.Limits{LowShrink: 200, HighShrink: 200, MostLime: 1000, MostSand: 1000})), []int64{0, 0, 0, 0, 12, 0}, impl.OK)
	for total := int64(1); total <= impl.MaxParts; total++ {
		expect(t, fmt.Sprintf("CountBlends of two, %d", total), values(impl.CountBlends(list, total, allLimits)), total+1, impl.OK)
		expect(t, fmt.Sprintf("CountBlends of one, %d", total), values(impl.CountBlends(list[:1], total, allLimits)), 1, impl.OK)
		expect(t, fmt.Sprintf("CheapestBlend of one, %d", total), values(impl.CheapestBlend(list[:1], total, allLimits)), []int64{total}, impl.OK)
		expect(t, fmt.Sprintf("CountBlends of none, %d", total), values(impl.CountBlends(nil, total, allLimits)), 0, impl.OK)
		expect(t, fmt.Sprintf("CheapestBlend of none, %d", total), values(impl.CheapestBlend([]impl.Clay{}, total, allLimits)), []int64(nil), impl.ErrNotFound)
	}
}

func TestCheapestBlendErrors(t *testing.T) {
	none := []int64(nil)
	totals := append([]int64{-12, 13, 14, 100}, extremes...)
	for _, list := range invalidLists() {
		for _, total := range append([]int64{1, 12}, totals...) {
			expect(t, fmt.Sprintf("CheapestBlend(%v, %d)", list, total), values(impl.CheapestBlend(list, total, allLimits)), none, impl.ErrInvalid)
			expect(t, fmt.Sprintf("CountBlends(%v, %d)", list, total), values(impl.CountBlends(list, total, allLimits)), 0, impl.ErrInvalid)
		}
	}
	for _, list := range validLists() {
		for _, total := range totals {
			if total != 1 {
				expect(t, fmt.Sprintf("CheapestBlend(%v, %d)", list, total), values(impl.CheapestBlend(list, total, allLimits)), none, impl.ErrRange)
				expect(t, fmt.Sprintf("CountBlends(%v, %d)", list, total), values(impl.CountBlends(list, total, allLimits)), 0, impl.ErrRange)
			}
		}
	}
}

func TestLeastParts(t *testing.T) {
	list := []impl.Clay{red, fat, marl}
	known := []struct{ parts, least []int64 }{
		{[]int64{6, 2, 0}, []int64{3, 1, 0}}, {[]int64{0, 6, 4}, []int64{0, 3, 2}}, {[]int64{6, 0, 4}, []int64{3, 0, 2}}, {[]int64{0, 0, 9}, []int64{0, 0, 1}},
		{[]int64{1000, 0, 0}, []int64{1, 0, 0}}, {[]int64{0, 1000, 0}, []int64{0, 1, 0}}, {[]int64{1000, 1000, 1000}, []int64{1, 1, 1}}, {[]int64{1000, 999, 0}, []int64{1000, 999, 0}},
		{[]int64{6, 10, 15}, []int64{6, 10, 15}}, {[]int64{12, 20, 30}, []int64{6, 10, 15}}, {[]int64{1, 1, 1}, []int64{1, 1, 1}}, {[]int64{0, 1, 0}, []int64{0, 1, 0}},
	}
	for _, k := range known {
		expect(t, fmt.Sprintf("LeastParts(%v)", k.parts), values(impl.LeastParts(list, k.parts)), k.least, impl.OK)
	}
}

// TestLeastPartsOfAll: the parts are multiples of the least ones, which have no common divisor.
func TestLeastPartsOfAll(t *testing.T) {
	for _, clays := range validLists() {
		list, unchanged := guarded(clays, most)
		for _, numbers := range partsFor(len(list)) {
			parts, partsUnchanged := guarded(numbers, 9)
			call := fmt.Sprintf("LeastParts of %v", parts)
			least, code := impl.LeastParts(list, parts)
			divisor := new(big.Int)
			for _, n := range parts {
				divisor.GCD(nil, nil, divisor, big.NewInt(n))
			}
			want := make([]int64, len(parts))
			for k, n := range parts {
				want[k] = n / divisor.Int64()
			}
			expect(t, call, values(least, code), want, impl.OK)
			spoil(least, 77)
			unchanged(t, call)
			partsUnchanged(t, call)
		}
	}
}

func TestClayText(t *testing.T) {
	known := map[string]impl.Clay{
		"red shrink 60 lime 50 sand 200 price 40":                    red,
		"fat shrink 100 lime 10 sand 100 price 20":                   fat,
		"void shrink 0 lime 0 sand 0 price 0":                        void,
		"abcdefgh-012 shrink 200 lime 1000 sand 1000 price 10000":    most,
		"z shrink 77 lime 1 sand 999 price 9999":                     last,
		"shrink shrink 1 lime 2 sand 3 price 4":                      {Name: "shrink", Shrink: 1, Lime: 2, Sand: 3, Price: 4},
		"lime shrink 4 lime 3 sand 2 price 1":                        {Name: "lime", Shrink: 4, Lime: 3, Sand: 2, Price: 1},
		"a- shrink 0 lime 1000 sand 0 price 10000":                   {Name: "a-", Lime: 1000, Price: 10000},
		"b2 shrink 200 lime 0 sand 1000 price 0":                     {Name: "b2", Shrink: 200, Sand: 1000},
		strings.Repeat("x", 12) + " shrink 9 lime 8 sand 7 price 65": {Name: strings.Repeat("x", 12), Shrink: 9, Lime: 8, Sand: 7, Price: 65},
	}
	for s, c := range known {
		expect(t, fmt.Sprintf("ClayText(%v)", c), values(impl.ClayText(c)), s)
		expect(t, fmt.Sprintf("ReadClay(%q)", s), values(impl.ReadClay(s)), c, true)
	}
	for _, c := range invalidClays() {
		expect(t, fmt.Sprintf("ClayText(%v)", c), values(impl.ClayText(c)), "")
		s := fmt.Sprintf("%s shrink %d lime %d sand %d price %d", c.Name, c.Shrink, c.Lime, c.Sand, c.Price)
		expect(t, fmt.Sprintf("ReadClay(%q)", s), values(impl.ReadClay(s)), impl.Clay{}, false)
	}
}

func TestReadClayOfEachNumber(t *testing.T) {
	for n := int64(-20); n <= 10020; n++ {
		for k, most := range []int64{200, 1000, 1000, 10000} {
			numbers := []int64{60, 50, 200, 40}
			numbers[k] = n
			s := fmt.Sprintf("red shrink %d lime %d sand %d price %d", numbers[0], numbers[1], numbers[2], numbers[3])
			if n < 0 || n > most {
				expect(t, fmt.Sprintf("ReadClay(%q)", s), values(impl.ReadClay(s)), impl.Clay{}, false)
			} else {
				c := impl.Clay{Name: "red", Shrink: numbers[0], Lime: numbers[1], Sand: numbers[2], Price: numbers[3]}
				expect(t, fmt.Sprintf("ReadClay(%q)", s), values(impl.ReadClay(s)), c, true)
				expect(t, fmt.Sprintf("ClayText(%v)", c), values(impl.ClayText(c)), s)
			}
		}
	}
}

func TestReadClayOfOthers(t *testing.T) {
	others := []string{
		"", " ", "red", "red shrink 60", "shrink 60 lime 50 sand 200 price 40",
		// words that are missing, superfluous, wrong or in another order
		"red shrink 60 lime 50 sand 200 price", "red shrink 60 lime 50 sand 200", "red shrink 60 lime 50 sand 200 40", "red 60 50 200 40", "red shrink lime 50 sand 200 price 40",
		"red shrink 60 lime 50 sand 200 price 40 40", "red shrink 60 lime 50 sand 200 price 40 red", "red red shrink 60 lime 50 sand 200 price 40", "clay red shrink 60 lime 50 sand 200 price 40",
		"red shrunk 60 lime 50 sand 200 price 40", "red shrink 60 limes 50 sand 200 price 40", "red shrink 60 lime 50 snad 200 price 40", "red shrink 60 lime 50 sand 200 Price 40",
		"red Shrink 60 lime 50 sand 200 price 40", "red shrink 60 lime 50 sand 200 price: 40", "red lime 50 shrink 60 sand 200 price 40", "red shrink 60 lime 50 price 40 sand 200",
		"60 shrink red lime 50 sand 200 price 40", "red 60 shrink 50 lime 200 sand 40 price", "red shrink 60 shrink 50 shrink 200 shrink 40", "red shrink 60, lime 50, sand 200, price 40",
		"red shrink 60 lime 50 sand price 200 40", "red shrink 60 lime 50 sand 200price 40",
		// blanks
		" red shrink 60 lime 50 sand 200 price 40", "red shrink 60 lime 50 sand 200 price 40 ", "red  shrink 60 lime 50 sand 200 price 40", "red shrink  60 lime 50 sand 200 price 40",
		"red shrink 60 lime 50 sand 200  price 40", "red shrink 60 lime 50 sand 200 price  40", "red\tshrink 60 lime 50 sand 200 price 40", "red shrink 60 lime 50 sand 200 price 40\n",
		"red shrink 60\nlime 50 sand 200 price 40", "red shrink 60 lime 50 sand 200 price 40\x00", "red shrink 60 lime 50 sand 200 price 4 0", "red\u00a0shrink 60 lime 50 sand 200 price 40",
		// names that are none
		"Red shrink 60 lime 50 sand 200 price 40", "1 shrink 60 lime 50 sand 200 price 40", "-red shrink 60 lime 50 sand 200 price 40", "re.d shrink 60 lime 50 sand 200 price 40",
		"abcdefgh-0123 shrink 60 lime 50 sand 200 price 40", "r\xff shrink 60 lime 50 sand 200 price 40",
		// numbers that are not in decimal, or out of range
		"red shrink 060 lime 50 sand 200 price 40", "red shrink 60 lime 050 sand 200 price 40", "red shrink 60 lime 50 sand 0200 price 40", "red shrink 60 lime 50 sand 200 price 040",
		"red shrink +60 lime 50 sand 200 price 40", "red shrink 60 lime +50 sand 200 price 40", "red shrink 60 lime 50 sand +200 price 40", "red shrink 60 lime 50 sand 200 price +40",
		"red shrink -60 lime 50 sand 200 price 40", "red shrink -0 lime 50 sand 200 price 40", "red shrink 60 lime -0 sand 200 price 40", "red shrink 60 lime 50 sand 200 price 00",
		"red shrink 60.0 lime 50 sand 200 price 40", "red shrink 6e1 lime 50 sand 200 price 40", "red shrink 0x3c lime 50 sand 200 price 40", "red shrink sixty lime 50 sand 200 price 40",
		"red shrink 60 lime 50 sand 200 price 10001", "red shrink 60 lime 50 sand 1001 price 40", "red shrink 60 lime 1001 sand 200 price 40", "red shrink 201 lime 50 sand 200 price 40",
		"red shrink 18446744073709551676 lime 50 sand 200 price 40", "red shrink 60 lime 50 sand 200 price 4294967336", "red shrink ６０ lime 50 sand 200 price 40",
	}
	for _, s := range others {
		expect(t, fmt.Sprintf("ReadClay(%q)", s), values(impl.ReadClay(s)), impl.Clay{}, false)
	}
	for _, s := range []string{strings.Repeat("red ", 3000), strings.Repeat(" ", 3000), "red shrink 60 lime 50 sand 200 price " + strings.Repeat("4", 3000)} {
		expect(t, "ReadClay of a long text", values(impl.ReadClay(s)), impl.Clay{}, false)
	}
}

// TestReadClayOfChangedTexts changes each byte of a text: it is read only as the text of another clay.
func TestReadClayOfChangedTexts(t *testing.T) {
	const text = "red shrink 60 lime 50 sand 200 price 40"
	for k := range len(text) {
		for b := range 256 {
			s := text[:k] + string([]byte{byte(b)}) + text[k+1:]
			c, ok := impl.ReadClay(s)
			if ok {
				expect(t, fmt.Sprintf("ReadClay(%q)", s), values(fmt.Sprintf("%s shrink %d lime %d sand %d price %d", c.Name, c.Shrink, c.Lime, c.Sand, c.Price), impl.ValidClays([]impl.Clay{c})), s, true)
			} else {
				expect(t, fmt.Sprintf("ReadClay(%q)", s), values(c, ok), impl.Clay{}, false)
			}
		}
	}
}

// TestPromise1Clays: every function of chapter 3 returns for all arguments, changes none, and keeps none of its results.
func TestPromise1Clays(t *testing.T) {
	manyParts := [][]int64{nil, {}, {1}, {0, 0}, {6, 2}, {1, 2, 3}, {0, 0, 0, 0, 0, 0}, {1, 0, 1000, 3, 5, 8}, make([]int64, 1000), extremes}
	for _, clays := range append(validLists(), invalidLists()...) {
		list, unchanged := guarded(clays, most)
		for _, numbers := range manyParts {
			parts, partsUnchanged := guarded(numbers, 9)
			for _, x := range []impl.Limits{{}, allLimits, invalidLimits()[0]} {
				expect(t, "BlendFault", values(impl.BlendFault(list, parts, x)), values(impl.BlendFault(list, parts, x))...)
			}
			expect(t, "ShrinkOf", values(impl.ShrinkOf(list, parts)), values(impl.ShrinkOf(list, parts))...)
			expect(t, "LimeOf", values(impl.LimeOf(list, parts)), values(impl.LimeOf(list, parts))...)
			expect(t, "BlendPrice", values(impl.BlendPrice(list, parts)), values(impl.BlendPrice(list, parts))...)
			least, code := impl.LeastParts(list, parts)
			before := slices.Clone(least)
			spoil(least, 77)
			expect(t, "LeastParts", values(impl.LeastParts(list, parts)), before, code)
			partsUnchanged(t, "a function of parts")
		}
		for _, total := range append([]int64{3, 12, 13}, extremes...) {
			for _, x := range []impl.Limits{{}, allLimits, invalidLimits()[0]} {
				best, code := impl.CheapestBlend(list, total, x)
				before := slices.Clone(best)
				spoil(best, 77)
				expect(t, "CheapestBlend", values(impl.CheapestBlend(list, total, x)), before, code)
				expect(t, "CountBlends", values(impl.CountBlends(list, total, x)), values(impl.CountBlends(list, total, x))...)
			}
		}
		more, code := impl.AddClay(list, impl.Clay{Name: "more"})
		before := slices.Clone(more)
		spoil(more, impl.Clay{Name: "spoilt"})
		expect(t, "AddClay", values(impl.AddClay(list, impl.Clay{Name: "more"})), before, code)
		expect(t, "ValidClays", values(impl.ValidClays(list)), impl.ValidClays(list))
		expect(t, "SameClays", values(impl.SameClays(list, clays), impl.SameClays(clays, list)), true, true)
		unchanged(t, "a function of clays")
	}
	for _, c := range append(invalidClays(), red, void, most) {
		for _, shrink := range append([]int64{70, 201}, extremes...) {
			expect(t, "BlendOfTwo", values(impl.BlendOfTwo(c, fat, shrink)), values(impl.BlendOfTwo(c, fat, shrink))...)
		}
		expect(t, "ClayText", values(impl.ClayText(c)), impl.ClayText(c))
		expect(t, "ReadClay", values(impl.ReadClay(impl.ClayText(c))), values(impl.ReadClay(impl.ClayText(c)))...)
	}
}
