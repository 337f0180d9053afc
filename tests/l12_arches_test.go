package tests

import (
	"fmt"
	"math/big"
	"testing"

	"loop.example/g01042/impl"
)

// Rings that are valid: that of the example of chapter 12, and one in which no brick has place.
var (
	gate  = impl.Ring{Radius: 339, Depth: 100, Brick: 65, Joint: 6}
	tight = impl.Ring{Radius: 50, Depth: 100, Brick: 250, Joint: 20}
)

// validRings are rings of all kinds: each field is at its limits and beside them, and between them. Some of them have inner or outer lengths that are whole.
func validRings() []impl.Ring {
	list := []impl.Ring{gate, tight}
	for _, radius := range []int64{50, 51, 85, 106, 112, 113, 120, 226, 233, 339, 402, 565, 1000, 4972, 4999, 5000} {
		for _, depth := range []int64{50, 51, 113, 999, 1000} {
			for _, brick := range []int64{30, 31, 65, 150, 227, 249, 250} {
				for _, joint := range []int64{1, 2, 6, 17, 19, 20} {
					list = append(list, impl.Ring{Radius: radius, Depth: depth, Brick: brick, Joint: joint})
				}
			}
		}
	}
	return list
}

// invalidRings have one fault each, or are far out of range.
func invalidRings() []impl.Ring {
	list := []impl.Ring{{}, {Radius: 339}, {Radius: 339, Depth: 100}, {Radius: 339, Depth: 100, Brick: 65}, {Depth: 100, Brick: 65, Joint: 6}, {Radius: -339, Depth: -100, Brick: -65, Joint: -6}}
	for _, n := range append(outside(50, 5000), 49, 5001) {
		list = append(list, impl.Ring{Radius: n, Depth: 100, Brick: 65, Joint: 6}, impl.Ring{Radius: n, Depth: n, Brick: n, Joint: n})
	}
	for _, n := range append(outside(50, 1000), 49, 1001) {
		list = append(list, impl.Ring{Radius: 339, Depth: n, Brick: 65, Joint: 6}, impl.Ring{Radius: 50, Depth: n, Brick: 250, Joint: 20})
	}
	for _, n := range append(outside(30, 250), 29, 251) {
		list = append(list, impl.Ring{Radius: 339, Depth: 100, Brick: n, Joint: 6})
	}
	for _, n := range append(outside(1, 20), 0, 21) {
		list = append(list, impl.Ring{Radius: 339, Depth: 100, Brick: 65, Joint: n}, impl.Ring{Radius: 50, Depth: 100, Brick: 250, Joint: n})
	}
	return list
}

// wholeRat returns the number n.
func wholeRat(n int64) *big.Rat { return big.NewRat(n, 1) }

// wantedLength returns the length of the half circle with a radius.
func wantedLength(radius int64) *big.Rat {
	return new(big.Rat).Mul(wholeRat(radius), big.NewRat(355, 113))
}

// wantedShare returns (length - taken) / parts.
func wantedShare(length *big.Rat, taken, parts int64) *big.Rat {
	left := new(big.Rat).Sub(length, wholeRat(taken))
	return left.Quo(left, wholeRat(parts))
}

// wantedRingBricks looks at all odd numbers of bricks that may have place: it returns the greatest one that has, 0 if there is none.
func wantedRingBricks(r impl.Ring) int64 {
	most := int64(0)
	for n := int64(1); n < 600; n += 2 {
		if wholeRat(n*(r.Brick+r.Joint)).Cmp(wantedLength(r.Radius)) <= 0 {
			most = n
		}
	}
	return most
}

// ringWith returns a ring with a depth of 50 whose bricks have a width with their least joints: the joints are as thick as they may be.
func ringWith(radius, place int64) impl.Ring {
	joint := min(place-30, 20)
	return impl.Ring{Radius: radius, Depth: 50, Brick: place - joint, Joint: joint}
}

func TestArchConstants(t *testing.T) {
	expect(t, "constants", values(impl.MaxRadius, impl.MaxBricks), 5000, 400)
}

// TestArchesExample is the example of chapter 12.
func TestArchesExample(t *testing.T) {
	inner, _, code := impl.JointsOf(gate)
	expect(t, "JointsOf", values(inner, code), impl.Fraction{Num: 6, Den: 1}, impl.OK)
	expect(t, "BricksIn", values(impl.BricksIn(gate)), 15, impl.OK)
}

func TestValidRing(t *testing.T) {
	for _, r := range validRings() {
		expect(t, fmt.Sprintf("ValidRing(%v)", r), values(impl.ValidRing(r)), true)
	}
	for _, r := range invalidRings() {
		expect(t, fmt.Sprintf("ValidRing(%v)", r), values(impl.ValidRing(r)), false)
	}
}

// TestValidRingAtEachEdge moves one field at a time over its limits.
func TestValidRingAtEachEdge(t *testing.T) {
	for n := int64(-100); n <= 5100; n++ {
		expect(t, fmt.Sprintf("Radius %d", n), values(impl.ValidRing(impl.Ring{Radius: n, Depth: 50, Brick: 30, Joint: 1}), impl.ValidRing(impl.Ring{Radius: n, Depth: 1000, Brick: 250, Joint: 20})), n >= 50 && n <= 5000, n >= 50 && n <= 5000)
		expect(t, fmt.Sprintf("Depth %d", n), values(impl.ValidRing(impl.Ring{Radius: 50, Depth: n, Brick: 30, Joint: 1})), n >= 50 && n <= 1000)
		expect(t, fmt.Sprintf("Brick %d", n), values(impl.ValidRing(impl.Ring{Radius: 50, Depth: 50, Brick: n, Joint: 1})), n >= 30 && n <= 250)
		expect(t, fmt.Sprintf("Joint %d", n), values(impl.ValidRing(impl.Ring{Radius: 50, Depth: 50, Brick: 30, Joint: n})), n >= 1 && n <= 20)
	}
}

func TestInnerLength(t *testing.T) {
	known := map[int64]impl.Fraction{
		// whole lengths, and those that miss them
		113: {Num: 355, Den: 1}, 339: {Num: 1065, Den: 1}, 4972: {Num: 15620, Den: 1}, 112: {Num: 39760, Den: 113}, 114: {Num: 40470, Den: 113}, 106: {Num: 37630, Den: 113}, 233: {Num: 82715, Den: 113},
		50: {Num: 17750, Den: 113}, 5000: {Num: 1775000, Den: 113},
	}
	for radius, want := range known {
		expect(t, fmt.Sprintf("InnerLength of the radius %d", radius), values(impl.InnerLength(ringWith(radius, 71))), want, impl.OK)
	}
	whole := 0
	for radius := int64(50); radius <= 5000; radius++ {
		length, code := impl.InnerLength(ringWith(radius, 31+radius%240))
		expect(t, fmt.Sprintf("InnerLength of the radius %d", radius), values(length, code), fraction(wantedLength(radius)), impl.OK)
		if length.Den == 1 {
			whole++
		}
	}
	expect(t, "the number of whole lengths", values(whole), 44)
	// Of the fields of a ring, the radius alone counts; a ring in which no brick has place has a length as well.
	for _, r := range validRings() {
		expect(t, fmt.Sprintf("InnerLength(%v)", r), values(impl.InnerLength(r)), fraction(wantedLength(r.Radius)), impl.OK)
	}
}

func TestBricksIn(t *testing.T) {
	known := []struct{ radius, place, want int64 }{
		// bricks that just fit with their least joints, and places that are one millimetre less or more
		{339, 71, 15}, {339, 70, 15}, {339, 72, 13}, {113, 71, 5}, {113, 72, 3}, {565, 71, 25}, {565, 72, 23}, {1356, 60, 71}, {1356, 61, 69}, {4972, 44, 355}, {4972, 45, 347}, {4972, 220, 71}, {4972, 221, 69},
		// a radius of one millimetre less or more than that
		{338, 71, 13}, {340, 71, 15}, {112, 71, 3}, {114, 71, 5}, {4971, 44, 353}, {4971, 220, 69},
		// lengths that miss a whole one by as little as can be, and those that have as little more
		{233, 244, 1}, {233, 243, 3}, {106, 37, 9}, {106, 38, 7}, {332, 149, 7}, {332, 150, 5}, {1024, 189, 17}, {1137, 94, 37},
		// an even number just fits, or almost does
		{226, 71, 9}, {226, 72, 9}, {226, 70, 9}, {226, 64, 11}, {452, 142, 9}, {452, 71, 19}, {452, 72, 19}, {904, 40, 71}, {50, 78, 1}, {50, 79, 1}, {50, 39, 3}, {85, 133, 1}, {85, 66, 3},
		// one brick, three bricks and none
		{50, 157, 1}, {50, 156, 1}, {50, 158, 0}, {50, 52, 3}, {50, 53, 1}, {50, 270, 0}, {85, 267, 1}, {85, 268, 0}, {85, 270, 0}, {86, 270, 1}, {113, 270, 1}, {113, 119, 1}, {113, 118, 3},
		// the limits of all fields; a ring has more bricks than a flat arch
		{50, 31, 5}, {5000, 31, 505}, {5000, 270, 57}, {5000, 39, 401}, {5000, 40, 391},
	}
	for _, k := range known {
		want, code := k.want, int64(impl.OK)
		if want == 0 {
			code = impl.ErrNotFound
		}
		for joint := max(1, k.place-250); joint <= min(20, k.place-30); joint++ {
			r := impl.Ring{Radius: k.radius, Depth: 50 + 25*joint, Brick: k.place - joint, Joint: joint}
			expect(t, fmt.Sprintf("BricksIn(%v)", r), values(impl.BricksIn(r)), want, code)
		}
	}
}

// TestPromise12Place: as many bricks stand in a ring as have place, and no odd number more; their joints are not thinner than they may be.
func TestPromise12Place(t *testing.T) {
	just, missed, even, one, none := 0, 0, 0, 0, 0
	for radius := int64(50); radius <= 5000; radius += 1 + radius/350 {
		for place := int64(31); place <= 270; place++ {
			r := ringWith(radius, place)
			n, code := impl.BricksIn(r)
			inner, _, jointCode := impl.JointsOf(r)
			// Both are told in parts of 113 of a millimetre.
			length, wide := radius*355, place*113
			if n == 0 {
				none++
				expect(t, fmt.Sprintf("BricksIn(%v)", r), values(code, jointCode, inner, wide > length), impl.ErrNotFound, impl.ErrNotFound, impl.Fraction{}, true)
				continue
			}
			if code != impl.OK || jointCode != impl.OK || n%2 != 1 || n < 1 || n*wide > length || (n+2)*wide <= length {
				t.Errorf("BricksIn(%v): got %d %d", r, n, code)
			}
			if thin := inner.Num - r.Joint*inner.Den; thin < 0 || (thin == 0) != (n*wide == length) {
				t.Errorf("JointsOf(%v): got %v for %d bricks", r, inner, n)
			}
			switch {
			case n*wide == length:
				just++
			case (n+2)*wide == length+1:
				missed++
			case (n+1)*wide <= length:
				even++
			case n == 1:
				one++
			}
		}
	}
	expect(t, "rings of all kinds are there", values(just > 0, missed > 0, even > 1000, one > 100, none > 100), true, true, true, true, true)
}

// TestBricksInWholeLengths: all rings with a whole inner length, and those beside them, whose lengths are a little less or more.
func TestBricksInWholeLengths(t *testing.T) {
	just := 0
	for whole := int64(113); whole <= 4972; whole += 113 {
		for place := int64(31); place <= 270; place++ {
			for radius := whole - 1; radius <= whole+1; radius++ {
				n, code := impl.BricksIn(ringWith(radius, place))
				if code != impl.OK && code != impl.ErrNotFound || n*place*113 > radius*355 || (n+1+n%2)*place*113 <= radius*355 {
					t.Errorf("BricksIn(%v): got %d %d", ringWith(radius, place), n, code)
				}
				if n > 0 && n*place*113 == radius*355 {
					just++
				}
			}
		}
	}
	expect(t, "some bricks just fit", values(just > 50), true)
}

func TestJointsOf(t *testing.T) {
	known := []struct {
		r            impl.Ring
		inner, outer impl.Fraction
	}{
		{gate, impl.Fraction{Num: 6, Den: 1}, impl.Fraction{Num: 9134, Den: 339}},
		// joints that are just as thick as they must be, at both ends of their range, and joints that are a little thicker
		{impl.Ring{Radius: 113, Depth: 113, Brick: 70, Joint: 1}, impl.Fraction{Num: 1, Den: 1}, impl.Fraction{Num: 72, Den: 1}},
		{impl.Ring{Radius: 113, Depth: 226, Brick: 51, Joint: 20}, impl.Fraction{Num: 20, Den: 1}, impl.Fraction{Num: 162, Den: 1}},
		{impl.Ring{Radius: 106, Depth: 120, Brick: 36, Joint: 1}, impl.Fraction{Num: 1018, Den: 1017}, impl.Fraction{Num: 386, Den: 9}},
		// one brick, and an outer half circle that is whole while the inner one is not, and the other way round
		{impl.Ring{Radius: 50, Depth: 63, Brick: 140, Joint: 17}, impl.Fraction{Num: 1930, Den: 113}, impl.Fraction{Num: 215, Den: 1}},
		{impl.Ring{Radius: 402, Depth: 50, Brick: 250, Joint: 1}, impl.Fraction{Num: 292, Den: 113}, impl.Fraction{Num: 34, Den: 1}},
		{impl.Ring{Radius: 113, Depth: 50, Brick: 65, Joint: 6}, impl.Fraction{Num: 6, Den: 1}, impl.Fraction{Num: 4228, Den: 113}},
		// the limits of all fields
		{impl.Ring{Radius: 50, Depth: 50, Brick: 30, Joint: 1}, impl.Fraction{Num: 160, Den: 113}, impl.Fraction{Num: 3710, Den: 113}},
		{impl.Ring{Radius: 5000, Depth: 1000, Brick: 250, Joint: 20}, impl.Fraction{Num: 164750, Den: 6441}, impl.Fraction{Num: 173250, Den: 2147}},
	}
	for _, k := range known {
		expect(t, fmt.Sprintf("JointsOf(%v)", k.r), values(impl.JointsOf(k.r)), k.inner, k.outer, impl.OK)
	}
}

func TestTaperOf(t *testing.T) {
	known := []struct {
		r     impl.Ring
		taper impl.Fraction
	}{
		{gate, impl.Fraction{Num: 7100, Den: 339}},
		// whole and not whole; one brick
		{impl.Ring{Radius: 113, Depth: 113, Brick: 70, Joint: 1}, impl.Fraction{Num: 71, Den: 1}},
		{impl.Ring{Radius: 339, Depth: 113, Brick: 65, Joint: 6}, impl.Fraction{Num: 71, Den: 3}},
		{impl.Ring{Radius: 339, Depth: 339, Brick: 65, Joint: 6}, impl.Fraction{Num: 71, Den: 1}},
		{impl.Ring{Radius: 50, Depth: 50, Brick: 140, Joint: 17}, impl.Fraction{Num: 17750, Den: 113}},
		{impl.Ring{Radius: 50, Depth: 1000, Brick: 140, Joint: 17}, impl.Fraction{Num: 355000, Den: 113}},
		{impl.Ring{Radius: 5000, Depth: 50, Brick: 30, Joint: 1}, impl.Fraction{Num: 3550, Den: 11413}},
		{impl.Ring{Radius: 5000, Depth: 1000, Brick: 250, Joint: 20}, impl.Fraction{Num: 355000, Den: 6441}},
	}
	for _, k := range known {
		expect(t, fmt.Sprintf("TaperOf(%v)", k.r), values(impl.TaperOf(k.r)), k.taper, impl.OK)
	}
}

// TestRingsOfAllKinds: bricks, joints, tapers and whether they are needed, in many rings. The outer joints are thicker than the inner ones by the taper.
func TestRingsOfAllKinds(t *testing.T) {
	for _, r := range validRings() {
		n := wantedRingBricks(r)
		if n == 0 {
			expectNoBricks(t, r)
			continue
		}
		call := fmt.Sprintf("the ring %v", r)
		inner := wantedShare(wantedLength(r.Radius), n*r.Brick, n)
		outer := wantedShare(wantedLength(r.Radius+r.Depth), n*r.Brick, n)
		taper := wantedShare(wantedLength(r.Depth), 0, n)
		expect(t, call, values(impl.BricksIn(r)), n, impl.OK)
		expect(t, call, values(impl.JointsOf(r)), fraction(inner), fraction(outer), impl.OK)
		expect(t, call, values(impl.TaperOf(r)), fraction(taper), impl.OK)
		expect(t, call+": the joints differ by the taper", values(new(big.Rat).Sub(outer, inner).Cmp(taper)), 0)
		for most := int64(1); most <= 100; most++ {
			must, code := impl.MustTaper(r, most)
			if code != impl.OK || must != (outer.Cmp(wholeRat(most)) > 0) {
				t.Errorf("MustTaper(%v, %d): got %v %d with %v", r, most, must, code, outer)
			}
		}
	}
}

// expectNoBricks checks a ring in which no brick has place: zero values beside the error, but numbers out of range are told before it.
func expectNoBricks(t *testing.T, r impl.Ring) {
	t.Helper()
	call := fmt.Sprintf("the ring %v", r)
	expect(t, call, values(impl.ValidRing(r)), true)
	expect(t, call, values(impl.BricksIn(r)), 0, impl.ErrNotFound)
	expect(t, call, values(impl.JointsOf(r)), impl.Fraction{}, impl.Fraction{}, impl.ErrNotFound)
	expect(t, call, values(impl.TaperOf(r)), impl.Fraction{}, impl.ErrNotFound)
	for _, most := range []int64{1, 2, 50, 99, 100} {
		expect(t, fmt.Sprintf("MustTaper(%v, %d)", r, most), values(impl.MustTaper(r, most)), false, impl.ErrNotFound)
	}
	for _, most := range append(outside(1, 100), 0, 101) {
		expect(t, fmt.Sprintf("MustTaper(%v, %d)", r, most), values(impl.MustTaper(r, most)), false, impl.ErrRange)
	}
}

// TestRingsWithoutPlace: there are valid rings in which not even one brick has place, from the smallest radius up to 85.
func TestRingsWithoutPlace(t *testing.T) {
	for radius := int64(50); radius <= 120; radius++ {
		for place := int64(31); place <= 270; place++ {
			if wholeRat(place).Cmp(wantedLength(radius)) > 0 {
				expectNoBricks(t, ringWith(radius, place))
			}
		}
	}
	expectNoBricks(t, tight)
	expect(t, "the last radius without place, and the first one with it", values(impl.BricksIn(impl.Ring{Radius: 85, Depth: 50, Brick: 250, Joint: 20})), 0, impl.ErrNotFound)
	expect(t, "the first radius with place", values(impl.BricksIn(impl.Ring{Radius: 86, Depth: 50, Brick: 250, Joint: 20})), 1, impl.OK)
}

func TestMustTaper(t *testing.T) {
	known := []struct {
		radius, depth, brick, joint, most int64
		want                              bool
	}{
		{339, 100, 65, 6, 20, true}, {339, 100, 65, 6, 26, true}, {339, 100, 65, 6, 27, false}, {339, 100, 65, 6, 1, true}, {339, 100, 65, 6, 100, false},
		// outer joints of just 34, a little more and a little less
		{402, 50, 250, 1, 33, true}, {402, 50, 250, 1, 34, false}, {402, 50, 250, 1, 35, false}, {402, 51, 250, 1, 34, true}, {401, 50, 250, 1, 34, false}, {401, 50, 250, 1, 33, true},
		// just 100, a little more and a little less
		{126, 100, 42, 15, 100, false}, {126, 100, 42, 15, 99, true}, {126, 101, 42, 15, 100, true}, {126, 99, 42, 15, 100, false}, {126, 99, 42, 15, 99, true},
		// between 1 and 2, and more than 100
		{5000, 50, 30, 1, 1, true}, {5000, 50, 30, 1, 2, false}, {50, 1000, 140, 17, 100, true}, {50, 1000, 140, 17, 1, true},
	}
	for _, k := range known {
		r := impl.Ring{Radius: k.radius, Depth: k.depth, Brick: k.brick, Joint: k.joint}
		expect(t, fmt.Sprintf("MustTaper(%v, %d)", r, k.most), values(impl.MustTaper(r, k.most)), k.want, impl.OK)
	}
}

// TestMustTaperAtTheEdge: of many rings, those whose outer joints are just as thick as a whole number, or differ from it by as little as can be.
func TestMustTaperAtTheEdge(t *testing.T) {
	just, thicker, thinner := 0, 0, 0
	for radius := int64(50); radius <= 900; radius += 3 {
		for depth := int64(50); depth <= 400; depth += 7 {
			for _, brick := range []int64{30, 37, 42, 64, 65, 70, 142, 213, 250} {
				r := impl.Ring{Radius: radius, Depth: depth, Brick: brick, Joint: 1 + (radius+depth)%20}
				n, code := impl.BricksIn(r)
				if code != impl.OK {
					continue
				}
				// What the bricks leave outside, in parts of 113 * n of a millimetre.
				left, part := (radius+depth)*355-n*brick*113, 113*n
				most := (left + part/2) / part
				if most < 1 || most > 100 {
					continue
				}
				must, code := impl.MustTaper(r, most)
				expect(t, fmt.Sprintf("MustTaper(%v, %d)", r, most), values(must, code), left > most*part, impl.OK)
				switch left - most*part {
				case 0:
					just++
				case 1, 2, 3, 4, 5:
					thicker++
				case -1, -2, -3, -4, -5:
					thinner++
				}
			}
		}
	}
	expect(t, "joints of all kinds are there", values(just > 5, thicker > 5, thinner > 5), true, true, true)
}

// TestRingErrors: a ring that is not valid, then most out of range, each beside zero values. Rings without place are in TestRingsWithoutPlace.
func TestRingErrors(t *testing.T) {
	mosts := append(outside(1, 100), 0, 101)
	for _, r := range invalidRings() {
		call := fmt.Sprintf("the ring %v", r)
		expect(t, call, values(impl.InnerLength(r)), impl.Fraction{}, impl.ErrInvalid)
		expect(t, call, values(impl.BricksIn(r)), 0, impl.ErrInvalid)
		expect(t, call, values(impl.JointsOf(r)), impl.Fraction{}, impl.Fraction{}, impl.ErrInvalid)
		expect(t, call, values(impl.TaperOf(r)), impl.Fraction{}, impl.ErrInvalid)
		for _, most := range append([]int64{1, 20, 100}, mosts...) {
			expect(t, fmt.Sprintf("MustTaper(%v, %d)", r, most), values(impl.MustTaper(r, most)), false, impl.ErrInvalid)
		}
	}
	for _, r := range []impl.Ring{gate, tight, {Radius: 50, Depth: 50, Brick: 30, Joint: 1}, {Radius: 5000, Depth: 1000, Brick: 250, Joint: 20}} {
		for _, most := range mosts {
			expect(t, fmt.Sprintf("MustTaper(%v, %d)", r, most), values(impl.MustTaper(r, most)), false, impl.ErrRange)
		}
	}
}

func TestRadiusOf(t *testing.T) {
	known := []struct{ span, rise, num, den int64 }{
		{800, 200, 500, 1}, {8, 2, 5, 1}, {8, 1, 17, 2}, {6, 1, 5, 1}, {2, 1, 1, 1}, {3, 1, 13, 8}, {4, 1, 5, 2}, {5, 2, 41, 16}, {5, 1, 29, 8}, {7, 3, 85, 24},
		// the greatest span, and rises at their limits; a rise of half of the span is the radius of a half circle
		{10000, 1, 25000001, 2}, {10000, 5000, 5000, 1}, {10000, 4999, 49990001, 9998}, {9999, 4999, 199940005, 39992}, {9999, 1, 99980005, 8}, {9998, 4999, 4999, 1}, {100, 50, 50, 1}, {101, 50, 20201, 400},
	}
	for _, k := range known {
		expect(t, fmt.Sprintf("RadiusOf(%d, %d)", k.span, k.rise), values(impl.RadiusOf(k.span, k.rise)), impl.Fraction{Num: k.num, Den: k.den}, impl.OK)
	}
}

// TestRadiusOfAll: the ends of the span and the top of the arc have the told distance from the centre. Rises of more than half of the span are none.
func TestRadiusOfAll(t *testing.T) {
	spans := []int64{997, 1000, 4999, 5000, 5001, 9997, 9998, 9999, 10000}
	for span := int64(1); span <= 60; span++ {
		spans = append(spans, span)
	}
	for _, span := range spans {
		for rise := int64(1); rise <= span/2; rise++ {
			radius, code := impl.RadiusOf(span, rise)
			r := big.NewRat(max(radius.Num, 1), max(radius.Den, 1))
			expect(t, fmt.Sprintf("RadiusOf(%d, %d)", span, rise), values(radius, code), fraction(r), impl.OK)
			below, half := new(big.Rat).Sub(r, wholeRat(rise)), big.NewRat(span, 2)
			if new(big.Rat).Add(below.Mul(below, below), half.Mul(half, half)).Cmp(r.Mul(r, r)) != 0 {
				t.Errorf("RadiusOf(%d, %d): got %v", span, rise, radius)
			}
		}
		for _, rise := range []int64{span/2 + 1, span/2 + 2, span, span + 1, 2 * span} {
			expect(t, fmt.Sprintf("RadiusOf(%d, %d)", span, rise), values(impl.RadiusOf(span, rise)), impl.Fraction{}, impl.ErrRange)
		}
	}
}

func TestRadiusErrors(t *testing.T) {
	check := func(span, rise int64) {
		t.Helper()
		expect(t, fmt.Sprintf("RadiusOf(%d, %d)", span, rise), values(impl.RadiusOf(span, rise)), impl.Fraction{}, impl.ErrRange)
	}
	spans, rises := append(outside(1, 10000), 0, 10001), append(outside(1, 5000), 0, 5001)
	for _, span := range spans {
		for _, rise := range append([]int64{1, 2, 5000}, rises...) {
			check(span, rise)
		}
	}
	for _, rise := range rises {
		for _, span := range []int64{1, 2, 100, 9999, 10000} {
			check(span, rise)
		}
	}
	// half of the span and one millimetre more; half of an odd span is no rise
	for _, k := range [][2]int64{{1, 1}, {2, 2}, {3, 2}, {5, 3}, {100, 51}, {100, 60}, {101, 51}, {9999, 5000}, {9998, 5000}, {1, 5000}, {10000, 5001}} {
		check(k[0], k[1])
	}
}

func TestArcPoint(t *testing.T) {
	known := []struct {
		radius, p, q int64
		x, y         impl.Fraction
	}{
		{5, 1, 2, impl.Fraction{Num: 3, Den: 1}, impl.Fraction{Num: 4, Den: 1}},
		{5, 2, 4, impl.Fraction{Num: 3, Den: 1}, impl.Fraction{Num: 4, Den: 1}},
		// p = 0 and p = q
		{5, 0, 1, impl.Fraction{Num: 5, Den: 1}, impl.Fraction{Num: 0, Den: 1}},
		{5000, 0, 1000, impl.Fraction{Num: 5000, Den: 1}, impl.Fraction{Num: 0, Den: 1}},
		{1, 1, 1, impl.Fraction{Num: 0, Den: 1}, impl.Fraction{Num: 1, Den: 1}},
		{5000, 1000, 1000, impl.Fraction{Num: 0, Den: 1}, impl.Fraction{Num: 5000, Den: 1}},
		// p greater than q: to the left of the centre
		{5, 2, 1, impl.Fraction{Num: -3, Den: 1}, impl.Fraction{Num: 4, Den: 1}},
		{10, 3, 1, impl.Fraction{Num: -8, Den: 1}, impl.Fraction{Num: 6, Den: 1}},
		{1, 3, 2, impl.Fraction{Num: -5, Den: 13}, impl.Fraction{Num: 12, Den: 13}},
		{1, 2, 3, impl.Fraction{Num: 5, Den: 13}, impl.Fraction{Num: 12, Den: 13}},
		{26, 3, 2, impl.Fraction{Num: -10, Den: 1}, impl.Fraction{Num: 24, Den: 1}},
		{3, 3, 1, impl.Fraction{Num: -12, Den: 5}, impl.Fraction{Num: 9, Den: 5}},
		// the limits of all numbers
		{1, 1000, 1, impl.Fraction{Num: -999999, Den: 1000001}, impl.Fraction{Num: 2000, Den: 1000001}},
		{5000, 1, 1000, impl.Fraction{Num: 4999995000, Den: 1000001}, impl.Fraction{Num: 10000000, Den: 1000001}},
		{5000, 1000, 999, impl.Fraction{Num: -9995000, Den: 1998001}, impl.Fraction{Num: 9990000000, Den: 1998001}},
	}
	for _, k := range known {
		expect(t, fmt.Sprintf("ArcPoint(%d, %d, %d)", k.radius, k.p, k.q), values(impl.ArcPoint(k.radius, k.p, k.q)), k.x, k.y, impl.OK)
	}
}

// TestPromise12Points: points of an arc are on its circle, above the line through the centre, to its left if p is greater than q, and told in lowest terms.
func TestPromise12Points(t *testing.T) {
	numbers := []int64{1, 2, 3, 4, 5, 6, 7, 12, 30, 97, 360, 499, 500, 999, 1000}
	for _, radius := range []int64{1, 2, 5, 13, 60, 65, 339, 2500, 4999, 5000} {
		for _, p := range append([]int64{0}, numbers...) {
			for _, q := range numbers {
				x, y, code := impl.ArcPoint(radius, p, q)
				call := fmt.Sprintf("ArcPoint(%d, %d, %d)", radius, p, q)
				if code != impl.OK || x.Den < 1 || y.Den < 1 {
					t.Errorf("%s: got %v %v %d", call, x, y, code)
					continue
				}
				right, up := big.NewRat(x.Num, x.Den), big.NewRat(y.Num, y.Den)
				expect(t, call, values(fraction(right), fraction(up), right.Sign(), up.Sign()), x, y, wholeRat(q-p).Sign(), wholeRat(p).Sign())
				if new(big.Rat).Add(new(big.Rat).Mul(right, right), new(big.Rat).Mul(up, up)).Cmp(wholeRat(radius*radius)) != 0 {
					t.Errorf("%s: got %v %v, which is not on the circle", call, x, y)
				}
				// The line from the left end of the circle to the point rises by p for q.
				if rise := new(big.Rat).Mul(new(big.Rat).Add(right, wholeRat(radius)), big.NewRat(p, q)); rise.Cmp(up) != 0 {
					t.Errorf("%s: got %v %v, which is another point of the circle", call, x, y)
				}
			}
		}
	}
}

func TestArcPointErrors(t *testing.T) {
	check := func(radius, p, q int64) {
		t.Helper()
		expect(t, fmt.Sprintf("ArcPoint(%d, %d, %d)", radius, p, q), values(impl.ArcPoint(radius, p, q)), impl.Fraction{}, impl.Fraction{}, impl.ErrRange)
	}
	radii, ps, qs := append(outside(1, 5000), 0, 5001), append(outside(0, 1000), -1, 1001), append(outside(1, 1000), 0, 1001)
	for _, radius := range radii {
		for _, p := range append([]int64{0, 1, 1000}, ps...) {
			for _, q := range append([]int64{1, 1000}, qs...) {
				check(radius, p, q)
			}
		}
	}
	for _, radius := range []int64{1, 5, 5000} {
		for _, p := range ps {
			for _, q := range append([]int64{1, 1000}, qs...) {
				check(radius, p, q)
			}
		}
		for _, p := range []int64{0, 1, 1000} {
			for _, q := range qs {
				check(radius, p, q)
			}
		}
	}
}

func TestFlatWidths(t *testing.T) {
	known := []struct {
		span, skew, joint, bricks int64
		low, high                 impl.Fraction
	}{
		{900, 60, 10, 11, impl.Fraction{Num: 780, Den: 11}, impl.Fraction{Num: 900, Den: 11}},
		{900, 0, 10, 11, impl.Fraction{Num: 780, Den: 11}, impl.Fraction{Num: 780, Den: 11}},
		// a first width that is just positive
		{100, 0, 10, 7, impl.Fraction{Num: 20, Den: 7}, impl.Fraction{Num: 20, Den: 7}},
		{101, 0, 10, 9, impl.Fraction{Num: 1, Den: 9}, impl.Fraction{Num: 1, Den: 9}},
		{101, 500, 10, 9, impl.Fraction{Num: 1, Den: 9}, impl.Fraction{Num: 1001, Den: 9}},
		{401, 1, 1, 399, impl.Fraction{Num: 1, Den: 399}, impl.Fraction{Num: 1, Den: 133}},
		{4801, 0, 12, 399, impl.Fraction{Num: 1, Den: 399}, impl.Fraction{Num: 1, Den: 399}},
		// the limits of all numbers
		{100, 0, 0, 1, impl.Fraction{Num: 100, Den: 1}, impl.Fraction{Num: 100, Den: 1}},
		{100, 500, 20, 1, impl.Fraction{Num: 60, Den: 1}, impl.Fraction{Num: 1060, Den: 1}},
		{100, 500, 20, 3, impl.Fraction{Num: 20, Den: 3}, impl.Fraction{Num: 340, Den: 1}},
		{5000, 500, 20, 1, impl.Fraction{Num: 4960, Den: 1}, impl.Fraction{Num: 5960, Den: 1}},
		{5000, 500, 0, 399, impl.Fraction{Num: 5000, Den: 399}, impl.Fraction{Num: 2000, Den: 133}},
		{100, 0, 0, 399, impl.Fraction{Num: 100, Den: 399}, impl.Fraction{Num: 100, Den: 399}},
	}
	for _, k := range known {
		expect(t, fmt.Sprintf("FlatWidths(%d, %d, %d, %d)", k.span, k.skew, k.joint, k.bricks), values(impl.FlatWidths(k.span, k.skew, k.joint, k.bricks)), k.low, k.high, impl.OK)
	}
}

// flatArches are the span, the skew and the joint of flat arches of all kinds.
func flatArches() [][3]int64 {
	var list [][3]int64
	for _, span := range []int64{100, 101, 119, 120, 121, 400, 401, 865, 900, 2501, 4800, 4999, 5000} {
		for _, skew := range []int64{0, 1, 60, 499, 500} {
			for _, joint := range []int64{0, 1, 7, 10, 12, 19, 20} {
				list = append(list, [3]int64{span, skew, joint})
			}
		}
	}
	return list
}

// wrongArches have at least one number that is out of range.
func wrongArches() [][3]int64 {
	var list [][3]int64
	spans, skews, joints := append(outside(100, 5000), 99, 5001), append(outside(0, 500), -1, 501), append(outside(0, 20), -1, 21)
	for _, span := range spans {
		list = append(list, [3]int64{span, 60, 10}, [3]int64{span, 0, 0}, [3]int64{span, span, span})
	}
	for _, skew := range skews {
		list = append(list, [3]int64{900, skew, 10}, [3]int64{100, skew, 20}, [3]int64{5000, skew, 0}, [3]int64{0, skew, 10})
	}
	for _, joint := range joints {
		list = append(list, [3]int64{900, 60, joint}, [3]int64{100, 0, joint}, [3]int64{5000, 500, joint}, [3]int64{900, 501, joint})
	}
	return list
}

// TestFlatWidthsOfAll: the widths of all bricks and the thickness of all joints are the length of the lower and of the upper side.
func TestFlatWidthsOfAll(t *testing.T) {
	codes, none := map[int64]int{}, 0
	for _, a := range flatArches() {
		for bricks := int64(1); bricks <= 400; bricks++ {
			low := wantedShare(wholeRat(a[0]), (bricks+1)*a[2], bricks)
			high := wantedShare(wholeRat(a[0]+2*a[1]), (bricks+1)*a[2], bricks)
			call := fmt.Sprintf("FlatWidths(%v, %d)", a, bricks)
			lower, upper, code := impl.FlatWidths(a[0], a[1], a[2], bricks)
			codes[code]++
			if low.Sign() == 0 && bricks%2 == 1 {
				none++
			}
			if bricks%2 == 0 || low.Sign() <= 0 {
				expect(t, call, values(lower, upper, code), impl.Fraction{}, impl.Fraction{}, impl.ErrState)
				continue
			}
			expect(t, call, values(lower, upper, code), fraction(low), fraction(high), impl.OK)
		}
	}
	expect(t, "both codes occur, and widths of 0", values(codes[impl.OK] > 1000, codes[impl.ErrState] > 1000, none > 5), true, true, true)
}

// TestFlatWidthErrors: numbers out of range, then an even number of bricks or a first width that is not positive, each beside zero values.
func TestFlatWidthErrors(t *testing.T) {
	check := func(span, skew, joint, bricks, code int64) {
		t.Helper()
		expect(t, fmt.Sprintf("FlatWidths(%d, %d, %d, %d)", span, skew, joint, bricks), values(impl.FlatWidths(span, skew, joint, bricks)), impl.Fraction{}, impl.Fraction{}, code)
	}
	wrong := append(outside(1, 400), 0, 401)
	for _, a := range wrongArches() {
		for _, bricks := range append([]int64{1, 10, 11, 399, 400}, wrong...) {
			check(a[0], a[1], a[2], bricks, impl.ErrRange)
		}
	}
	for _, bricks := range wrong {
		check(900, 60, 10, bricks, impl.ErrRange)
		check(100, 0, 20, bricks, impl.ErrRange)
		check(5000, 500, 0, bricks, impl.ErrRange)
	}
	for _, bricks := range []int64{2, 4, 10, 12, 100, 398, 400} {
		check(900, 60, 10, bricks, impl.ErrState)
		check(100, 0, 20, bricks, impl.ErrState)
		check(5000, 500, 0, bricks, impl.ErrState)
	}
	// a first width of 0, a negative one, and one that is negative beside an upper one that is positive
	check(100, 0, 10, 9, impl.ErrState)
	check(100, 500, 10, 9, impl.ErrState)
	check(120, 60, 20, 5, impl.ErrState)
	check(119, 60, 20, 5, impl.ErrState)
	check(400, 0, 1, 399, impl.ErrState)
	check(4800, 500, 12, 399, impl.ErrState)
	check(4799, 500, 12, 399, impl.ErrState)
	check(100, 0, 20, 399, impl.ErrState)
	check(5000, 500, 20, 399, impl.ErrState)
	check(100, 500, 20, 21, impl.ErrState)
}

func TestFlatBricks(t *testing.T) {
	known := []struct{ span, skew, joint, brick, want int64 }{
		{900, 60, 10, 65, 13},
		// upper widths that are just as great as brick, and those that are a little less or more
		{865, 60, 10, 65, 13}, {864, 60, 10, 65, 11}, {866, 60, 10, 65, 13}, {865, 59, 10, 65, 11}, {865, 60, 10, 66, 11}, {865, 60, 10, 64, 13}, {985, 0, 10, 65, 13}, {984, 0, 10, 65, 11}, {150, 0, 0, 30, 5}, {149, 30, 0, 30, 5}, {149, 0, 0, 30, 3}, {1000, 250, 0, 250, 5}, {1250, 0, 0, 250, 5}, {1249, 0, 0, 250, 3}, {1251, 0, 0, 250, 5},
		// an even number would do
		{120, 0, 0, 30, 3}, {121, 0, 0, 30, 3}, {500, 0, 0, 250, 1}, {749, 0, 0, 250, 1}, {750, 0, 0, 250, 3}, {5000, 500, 20, 100, 49},
		// one brick and none
		{100, 0, 20, 60, 1}, {100, 0, 20, 61, 0}, {101, 0, 20, 61, 1}, {100, 75, 0, 250, 1}, {100, 74, 0, 250, 0}, {100, 75, 1, 250, 0}, {100, 76, 1, 250, 1}, {100, 0, 0, 100, 1}, {100, 0, 0, 101, 0}, {100, 0, 20, 250, 0}, {100, 0, 20, 30, 1},
		// the limits of all numbers
		{100, 0, 0, 30, 3}, {5000, 500, 0, 30, 199}, {5000, 500, 20, 250, 21}, {5000, 500, 0, 250, 23}, {5000, 0, 20, 30, 99}, {5000, 500, 20, 30, 119}, {5000, 0, 0, 30, 165},
		// the upper side alone counts, also where the joints leave nothing of the lower one
		{100, 500, 20, 30, 21}, {100, 500, 20, 250, 3}, {120, 500, 20, 30, 21},
	}
	for _, k := range known {
		want, code := k.want, int64(impl.OK)
		if want == 0 {
			code = impl.ErrNotFound
		}
		expect(t, fmt.Sprintf("FlatBricks(%d, %d, %d, %d)", k.span, k.skew, k.joint, k.brick), values(impl.FlatBricks(k.span, k.skew, k.joint, k.brick)), want, code)
	}
}

// wantedFlatBricks looks at all odd numbers of bricks: it returns the greatest one with an upper width of at least brick, 0 if there is none.
func wantedFlatBricks(a [3]int64, brick int64) int64 {
	most := int64(0)
	for n := int64(1); n < impl.MaxBricks; n += 2 {
		if wantedShare(wholeRat(a[0]+2*a[1]), (n+1)*a[2], n).Cmp(wholeRat(brick)) >= 0 {
			most = n
		}
	}
	return most
}

// TestPromise12Flat: as many bricks stand in a flat arch as have place.
func TestPromise12Flat(t *testing.T) {
	just, missed, none := 0, 0, 0
	for _, a := range flatArches() {
		for _, brick := range []int64{30, 31, 64, 65, 66, 101, 179, 249, 250} {
			n, code := impl.FlatBricks(a[0], a[1], a[2], brick)
			call := fmt.Sprintf("FlatBricks(%v, %d)", a, brick)
			want := wantedFlatBricks(a, brick)
			if want == 0 {
				none++
				expect(t, call, values(n, code), 0, impl.ErrNotFound)
				continue
			}
			expect(t, call, values(n, code), want, impl.OK)
			length := a[0] + 2*a[1]
			switch {
			case n*brick+(n+1)*a[2] == length:
				just++
			case (n+2)*brick+(n+3)*a[2] <= length+2:
				missed++
			}
			if _, upper, code := impl.FlatWidths(a[0], a[1], a[2], n); code == impl.OK && upper.Num < brick*upper.Den {
				t.Errorf("%s: got %d with the upper width %v", call, n, upper)
			}
		}
	}
	expect(t, "arches of all kinds are there", values(just > 5, missed > 5, none > 5), true, true, true)
}

func TestFlatBricksErrors(t *testing.T) {
	check := func(a [3]int64, brick int64) {
		t.Helper()
		expect(t, fmt.Sprintf("FlatBricks(%v, %d)", a, brick), values(impl.FlatBricks(a[0], a[1], a[2], brick)), 0, impl.ErrRange)
	}
	wrong := append(outside(30, 250), 29, 251)
	for _, a := range wrongArches() {
		for _, brick := range append([]int64{30, 65, 250}, wrong...) {
			check(a, brick)
		}
	}
	// also where no brick has place
	for _, a := range append(flatArches(), [3]int64{900, 60, 10}, [3]int64{100, 0, 20}) {
		for _, brick := range wrong {
			check(a, brick)
		}
	}
}

func TestLeanOf(t *testing.T) {
	known := []struct {
		skew, bricks, k int64
		want            impl.Fraction
	}{
		{60, 11, 0, impl.Fraction{Num: -60, Den: 1}}, {60, 11, 11, impl.Fraction{Num: 60, Den: 1}}, {60, 11, 5, impl.Fraction{Num: -60, Den: 11}}, {60, 11, 6, impl.Fraction{Num: 60, Den: 11}}, {60, 11, 1, impl.Fraction{Num: -540, Den: 11}},
		// lowest terms, also of a joint that leans to the left
		{60, 9, 3, impl.Fraction{Num: -20, Den: 1}}, {60, 9, 6, impl.Fraction{Num: 20, Den: 1}}, {50, 15, 5, impl.Fraction{Num: -50, Den: 3}}, {50, 15, 10, impl.Fraction{Num: 50, Den: 3}},
		// no skew
		{0, 11, 0, impl.Fraction{Num: 0, Den: 1}}, {0, 11, 11, impl.Fraction{Num: 0, Den: 1}}, {0, 11, 5, impl.Fraction{Num: 0, Den: 1}}, {0, 1, 0, impl.Fraction{Num: 0, Den: 1}}, {0, 399, 399, impl.Fraction{Num: 0, Den: 1}},
		// the limits of all numbers
		{1, 1, 0, impl.Fraction{Num: -1, Den: 1}}, {1, 1, 1, impl.Fraction{Num: 1, Den: 1}}, {500, 1, 0, impl.Fraction{Num: -500, Den: 1}}, {500, 1, 1, impl.Fraction{Num: 500, Den: 1}}, {500, 399, 0, impl.Fraction{Num: -500, Den: 1}}, {500, 399, 399, impl.Fraction{Num: 500, Den: 1}}, {500, 399, 199, impl.Fraction{Num: -500, Den: 399}}, {500, 399, 200, impl.Fraction{Num: 500, Den: 399}}, {500, 399, 398, impl.Fraction{Num: 198500, Den: 399}},
	}
	for _, k := range known {
		expect(t, fmt.Sprintf("LeanOf(%d, %d, %d)", k.skew, k.bricks, k.k), values(impl.LeanOf(k.skew, k.bricks, k.k)), k.want, impl.OK)
	}
}

// TestLeanOfAll: from one end joint to the other one, each joint leans by the same more than the one before it. Even numbers of bricks and other joints are told.
func TestLeanOfAll(t *testing.T) {
	for bricks := int64(1); bricks <= 400; bricks++ {
		for _, skew := range []int64{0, 1, 7, 60, 105, 499, 500} {
			step := big.NewRat(2*skew, bricks)
			want := wholeRat(-skew)
			for k := range bricks + 1 {
				call := fmt.Sprintf("LeanOf(%d, %d, %d)", skew, bricks, k)
				if bricks%2 == 0 {
					expect(t, call, values(impl.LeanOf(skew, bricks, k)), impl.Fraction{}, impl.ErrState)
					continue
				}
				expect(t, call, values(impl.LeanOf(skew, bricks, k)), fraction(want), impl.OK)
				want.Add(want, step)
			}
			for _, k := range []int64{-1, bricks + 1} {
				expect(t, fmt.Sprintf("LeanOf(%d, %d, %d)", skew, bricks, k), values(impl.LeanOf(skew, bricks, k)), impl.Fraction{}, impl.ErrRange)
			}
		}
	}
}

// TestLeanErrors: numbers out of range are told before an even number of bricks, each beside zero values.
func TestLeanErrors(t *testing.T) {
	check := func(skew, bricks, k, code int64) {
		t.Helper()
		expect(t, fmt.Sprintf("LeanOf(%d, %d, %d)", skew, bricks, k), values(impl.LeanOf(skew, bricks, k)), impl.Fraction{}, code)
	}
	skews, many := append(outside(0, 500), -1, 501), append(outside(1, 400), 0, 401)
	for _, skew := range skews {
		for _, bricks := range append([]int64{1, 10, 11, 399, 400}, many...) {
			for _, k := range []int64{-1, 0, 1, bricks, 402} {
				check(skew, bricks, k, impl.ErrRange)
			}
		}
	}
	for _, bricks := range many {
		for _, k := range append([]int64{bricks, 400, 401}, extremes...) {
			check(60, bricks, k, impl.ErrRange)
			check(0, bricks, k, impl.ErrRange)
		}
	}
	for _, bricks := range []int64{1, 2, 10, 11, 399, 400} {
		for _, k := range append(outside(0, bricks), -1, bricks+1) {
			check(60, bricks, k, impl.ErrRange)
			check(0, bricks, k, impl.ErrRange)
		}
	}
	for _, bricks := range []int64{2, 4, 10, 398, 400} {
		for _, k := range []int64{0, 1, bricks / 2, bricks - 1, bricks} {
			check(60, bricks, k, impl.ErrState)
			check(0, bricks, k, impl.ErrState)
			check(500, bricks, k, impl.ErrState)
		}
	}
}

// TestPromise1Arches: every function of chapter 12 returns for all arguments, and equal results for equal ones.
func TestPromise1Arches(t *testing.T) {
	numbers := append([]int64{2, 11, 20, 50, 65, 100, 250, 400, 500, 1000, 5000, 10000}, extremes...)
	for _, a := range numbers {
		for _, b := range numbers {
			expect(t, "RadiusOf", values(impl.RadiusOf(a, b)), values(impl.RadiusOf(a, b))...)
			for _, c := range numbers {
				expect(t, "ArcPoint", values(impl.ArcPoint(a, b, c)), values(impl.ArcPoint(a, b, c))...)
				expect(t, "LeanOf", values(impl.LeanOf(a, b, c)), values(impl.LeanOf(a, b, c))...)
				for _, d := range numbers {
					expectSameRing(t, impl.Ring{Radius: a, Depth: b, Brick: c, Joint: d})
					if one, two := fmt.Sprint(impl.FlatWidths(a, b, c, d)), fmt.Sprint(impl.FlatWidths(a, b, c, d)); one != two {
						t.Errorf("FlatWidths(%d, %d, %d, %d): got %s and %s", a, b, c, d, one, two)
					}
					bricks, code := impl.FlatBricks(a, b, c, d)
					if again, codeAgain := impl.FlatBricks(a, b, c, d); again != bricks || codeAgain != code {
						t.Errorf("FlatBricks(%d, %d, %d, %d): got %d %d and %d %d", a, b, c, d, bricks, code, again, codeAgain)
					}
				}
			}
		}
	}
	for _, r := range append(validRings(), invalidRings()...) {
		for _, most := range numbers {
			expect(t, "MustTaper", values(impl.MustTaper(r, most)), values(impl.MustTaper(r, most))...)
		}
	}
}

// expectSameRing calls all functions of a ring twice, which need not be valid.
func expectSameRing(t *testing.T, r impl.Ring) {
	t.Helper()
	all := func() [12]any {
		length, one := impl.InnerLength(r)
		bricks, two := impl.BricksIn(r)
		inner, outer, three := impl.JointsOf(r)
		taper, four := impl.TaperOf(r)
		must, five := impl.MustTaper(r, 20)
		return [12]any{impl.ValidRing(r), length, one, bricks, two, inner, outer, three, taper, four, must, five}
	}
	if first, second := all(), all(); first != second {
		t.Errorf("the ring %v: got %v and %v", r, first, second)
	}
}
