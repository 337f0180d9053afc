package tests

import (
	"fmt"
	"math/big"
	"slices"
	"testing"

	"loop.example/g01042/impl"
)

// decimetre is a format whose face is 20000 square millimetres, and small is the format with the least face, of 3000.
var (
	decimetre = impl.Format{Length: 190, Width: 90, Height: 90, Joint: 10}
	small     = impl.Format{Length: 100, Width: 50, Height: 30, Joint: 0}
	large     = impl.Format{Length: 500, Width: 250, Height: 150, Joint: 20}
)

// Walls that are valid: an ordinary one, and those at the limits of all fields.
var (
	garage    = impl.Piece{Length: 1000, Height: 1000, Halves: 2}
	leastWall = impl.Piece{Length: 1, Height: 1, Halves: 1}
	greatWall = impl.Piece{Length: 100000, Height: 20000, Halves: 6}
)

// wallOf returns a wall that is half a brick thick.
func wallOf(length, height int64) impl.Piece {
	return impl.Piece{Length: length, Height: height, Halves: 1}
}

// validPieces are walls of all kinds: each field is at its limits and beside them.
func validPieces() []impl.Piece {
	list := []impl.Piece{garage, leastWall, greatWall, {Length: 2000, Height: 500, Halves: 1}, {Length: 1, Height: 20000, Halves: 3}, {Length: 100000, Height: 1, Halves: 5}, {Length: 7919, Height: 2503, Halves: 3}}
	for _, n := range []int64{1, 2, 999, 1000, 1001, 19999, 20000} {
		list = append(list, impl.Piece{Length: n, Height: 1000, Halves: 2}, impl.Piece{Length: 1000, Height: n, Halves: 2})
	}
	for _, n := range []int64{20001, 99999, 100000} {
		list = append(list, impl.Piece{Length: n, Height: 1000, Halves: 2})
	}
	for n := int64(1); n <= 6; n++ {
		list = append(list, impl.Piece{Length: 1000, Height: 1000, Halves: n}, impl.Piece{Length: 1, Height: 1, Halves: n})
	}
	return list
}

// invalidPieces have one fault each, or are far out of range.
func invalidPieces() []impl.Piece {
	list := []impl.Piece{{}, {Length: 1000}, {Length: 1000, Height: 1000}, {Height: 1000, Halves: 2}, {Length: -1000, Height: -1000, Halves: 2}, {Length: 100001, Height: 20001, Halves: 7}}
	for _, n := range append(outside(1, 100000), 0, 100001) {
		list = append(list, impl.Piece{Length: n, Height: 1000, Halves: 2}, impl.Piece{Length: n, Height: n, Halves: n})
	}
	for _, n := range append(outside(1, 20000), 0, 20001) {
		list = append(list, impl.Piece{Length: 1000, Height: n, Halves: 2})
	}
	for _, n := range append(outside(1, 6), 0, 7) {
		list = append(list, impl.Piece{Length: 1000, Height: 1000, Halves: n})
	}
	return list
}

// validPieceLists are lists of none, of one, of several and of 20 walls.
func validPieceLists() [][]impl.Piece {
	lists := [][]impl.Piece{nil, {}, {garage, garage}, {leastWall, greatWall, garage}, slices.Repeat([]impl.Piece{garage}, 20), slices.Repeat([]impl.Piece{leastWall}, 20), slices.Repeat([]impl.Piece{greatWall}, 20), slices.Repeat([]impl.Piece{greatWall}, 19), validPieces()[:20], validPieces()[5:20]}
	for _, p := range validPieces() {
		lists = append(lists, []impl.Piece{p}, []impl.Piece{garage, p}, []impl.Piece{p, leastWall, p})
	}
	return lists
}

// invalidPieceLists have an invalid wall at any place, or a wall too many.
func invalidPieceLists() [][]impl.Piece {
	lists := [][]impl.Piece{slices.Repeat([]impl.Piece{garage}, 21), slices.Repeat([]impl.Piece{leastWall}, 22), slices.Repeat([]impl.Piece{greatWall}, 1000), make([]impl.Piece, 20), make([]impl.Piece, 21)}
	for _, p := range invalidPieces() {
		lists = append(lists, []impl.Piece{p}, []impl.Piece{p, garage}, []impl.Piece{garage, p}, []impl.Piece{leastWall, p, greatWall})
	}
	for k := range 20 {
		list := slices.Repeat([]impl.Piece{garage}, 20)
		list[k].Halves = 7
		lists = append(lists, list)
	}
	return lists
}

// pieceOutline returns a text of a list of walls, which is short even if it is very long.
func pieceOutline(list []impl.Piece) string {
	if len(list) > 25 {
		return fmt.Sprintf("%d walls", len(list))
	}
	return fmt.Sprint(list)
}

// wantedUp returns the least integer that is not less than a number.
func wantedUp(x *big.Rat) int64 {
	whole, rest := new(big.Int).QuoRem(x.Num(), x.Denom(), new(big.Int))
	if rest.Sign() > 0 {
		return whole.Int64() + 1
	}
	return whole.Int64()
}

// wantedBricks returns the bricks of a wall from its area and that of a brick, both in square metres.
func wantedBricks(f impl.Format, p impl.Piece) int64 {
	area := new(big.Rat).Mul(big.NewRat(p.Length, 1000), big.NewRat(p.Height*p.Halves, 1000))
	brick := new(big.Rat).Mul(big.NewRat(f.Length+f.Joint, 1000), big.NewRat(f.Height+f.Joint, 1000))
	return wantedUp(area.Quo(area, brick))
}

func TestQuantityConstants(t *testing.T) {
	expect(t, "constants", values(impl.MaxSpan, impl.MaxOrder, impl.MaxPack), 100000, 1000000, 1000)
}

// TestQuantitiesExample is the example of chapter 11.
func TestQuantitiesExample(t *testing.T) {
	expect(t, "PacksFor", values(impl.PacksFor(1000, 300)), 4, 200, impl.OK)
}

func TestValidPieces(t *testing.T) {
	for _, walls := range validPieceLists() {
		list, unchanged := guarded(walls, impl.Piece{Length: 77})
		expect(t, fmt.Sprintf("ValidPieces(%v)", walls), values(impl.ValidPieces(list)), true)
		unchanged(t, "ValidPieces")
	}
	for _, walls := range invalidPieceLists() {
		list, unchanged := guarded(walls, garage)
		expect(t, "ValidPieces of "+pieceOutline(walls), values(impl.ValidPieces(list)), false)
		unchanged(t, "ValidPieces")
	}
	for n := range 30 {
		expect(t, fmt.Sprintf("ValidPieces of %d", n), values(impl.ValidPieces(slices.Repeat([]impl.Piece{greatWall}, n))), n <= 20)
	}
}

// TestValidPiecesAtEachEdge moves one field at a time over its limits.
func TestValidPiecesAtEachEdge(t *testing.T) {
	valid := func(p impl.Piece) bool { return impl.ValidPieces([]impl.Piece{garage, p}) }
	for n := int64(-30); n <= 30; n++ {
		expect(t, fmt.Sprintf("Length %d", n), values(valid(impl.Piece{Length: n, Height: 1, Halves: 1}), valid(impl.Piece{Length: 100000 + n, Height: 20000, Halves: 6})), n >= 1, n <= 0)
		expect(t, fmt.Sprintf("Height %d", n), values(valid(impl.Piece{Length: 1, Height: n, Halves: 1}), valid(impl.Piece{Length: 100000, Height: 20000 + n, Halves: 6})), n >= 1, n <= 0)
		expect(t, fmt.Sprintf("Halves %d", n), values(valid(impl.Piece{Length: 1000, Height: 1000, Halves: n})), n >= 1 && n <= 6)
	}
}

func TestPieceText(t *testing.T) {
	known := map[string]impl.Piece{"1000x1000 2/2": garage, "1x1 1/2": leastWall, "100000x20000 6/2": greatWall, "2000x500 1/2": wallOf(2000, 500), "7x20000 3/2": {Length: 7, Height: 20000, Halves: 3}}
	for want, p := range known {
		expect(t, fmt.Sprintf("PieceText(%v)", p), values(impl.PieceText(p)), want)
	}
	for _, p := range validPieces() {
		expect(t, fmt.Sprintf("PieceText(%v)", p), values(impl.PieceText(p)), fmt.Sprintf("%dx%d %d/2", p.Length, p.Height, p.Halves))
	}
	for _, p := range invalidPieces() {
		expect(t, fmt.Sprintf("PieceText(%v)", p), values(impl.PieceText(p)), "")
	}
}

func TestBricksOf(t *testing.T) {
	known := []struct {
		f    impl.Format
		p    impl.Piece
		want int64
	}{
		{decimetre, garage, 100}, {decimetre, impl.Piece{Length: 1000, Height: 1001, Halves: 2}, 101}, {decimetre, impl.Piece{Length: 1000, Height: 1000, Halves: 1}, 50}, {uk, garage, 119}, {uk, wallOf(1000, 1000), 60},
		// the least and the greatest wall, with the least and the greatest face
		{decimetre, leastWall, 1}, {small, leastWall, 1}, {large, leastWall, 1}, {small, greatWall, 4000000}, {large, greatWall, 135747}, {decimetre, greatWall, 600000},
		// covered by whole bricks, with one square millimetre more, and with one less
		{decimetre, wallOf(20000, 1), 1}, {decimetre, wallOf(20001, 1), 2}, {decimetre, wallOf(19999, 1), 1}, {decimetre, wallOf(1, 20000), 1}, {decimetre, wallOf(40000, 1), 2}, {decimetre, wallOf(40001, 1), 3}, {decimetre, wallOf(39999, 1), 2}, {decimetre, wallOf(200, 100), 1}, {decimetre, wallOf(100000, 20000), 100000},
		{decimetre, impl.Piece{Length: 6667, Height: 1, Halves: 3}, 2}, {decimetre, impl.Piece{Length: 3333, Height: 2, Halves: 3}, 1}, {small, wallOf(3000, 1), 1}, {small, wallOf(3001, 1), 2}, {small, wallOf(2999, 1), 1}, {small, wallOf(59, 51), 2}, {small, wallOf(2999, 2999), 2999},
		// the thickness is counted before it is rounded up
		{decimetre, impl.Piece{Length: 100, Height: 100, Halves: 1}, 1}, {decimetre, impl.Piece{Length: 100, Height: 100, Halves: 2}, 1}, {decimetre, impl.Piece{Length: 100, Height: 100, Halves: 3}, 2}, {decimetre, impl.Piece{Length: 100, Height: 100, Halves: 6}, 3},
	}
	for _, k := range known {
		expect(t, fmt.Sprintf("BricksOf(%v, %v)", k.f, k.p), values(impl.BricksOf(k.f, k.p)), k.want, impl.OK)
		expect(t, fmt.Sprintf("BricksOfAll(%v, %v)", k.f, k.p), values(impl.BricksOfAll(k.f, []impl.Piece{k.p})), k.want, impl.OK)
	}
}

// TestPromise11Cover: the bricks cover the wall, and one brick less does not.
func TestPromise11Cover(t *testing.T) {
	whole, over := 0, 0
	check := func(f impl.Format, p impl.Piece) {
		bricks, code := impl.BricksOf(f, p)
		face, area := (f.Length+f.Joint)*(f.Height+f.Joint), p.Length*p.Height*p.Halves
		if code != impl.OK || bricks*face < area || (bricks-1)*face >= area {
			t.Errorf("BricksOf(%v, %v): got %d %d for %d of %d", f, p, bricks, code, area, face)
		}
		switch bricks*face - area {
		case 0:
			whole++
		case face - 1:
			over++
		}
	}
	for _, f := range append(validFormats(), decimetre, small, large) {
		for _, p := range validPieces() {
			check(f, p)
		}
	}
	for _, f := range []impl.Format{small, decimetre, {Length: 103, Width: 51, Height: 31, Joint: 1}} {
		for length := int64(1); length <= 300; length++ {
			for height := int64(1); height <= 300; height += 1 + height/100 {
				for halves := int64(1); halves <= 6; halves++ {
					check(f, impl.Piece{Length: length, Height: height, Halves: halves})
				}
			}
		}
	}
	expect(t, "walls that whole bricks just cover are there, and walls that have one square millimetre more", values(whole > 10, over > 10), true, true)
}

func TestBricksOfAll(t *testing.T) {
	known := []struct {
		list []impl.Piece
		want int64
	}{
		{nil, 0}, {[]impl.Piece{}, 0}, {[]impl.Piece{garage}, 100}, {[]impl.Piece{garage, wallOf(2000, 500)}, 150}, {slices.Repeat([]impl.Piece{garage}, 20), 2000}, {slices.Repeat([]impl.Piece{greatWall}, 20), 12000000},
		// each wall is rounded up on its own
		{[]impl.Piece{leastWall, leastWall, leastWall}, 3}, {slices.Repeat([]impl.Piece{leastWall}, 20), 20}, {[]impl.Piece{wallOf(20001, 1), wallOf(19999, 1)}, 3},
	}
	for _, k := range known {
		expect(t, fmt.Sprintf("BricksOfAll(%v)", k.list), values(impl.BricksOfAll(decimetre, k.list)), k.want, impl.OK)
	}
	for _, f := range append(validFormats()[:50], decimetre, small, large) {
		for _, walls := range validPieceLists() {
			want := int64(0)
			for _, p := range walls {
				want += wantedBricks(f, p)
			}
			list, unchanged := guarded(walls, impl.Piece{Length: 77})
			expect(t, fmt.Sprintf("BricksOfAll(%v, %v)", f, walls), values(impl.BricksOfAll(f, list)), want, impl.OK)
			unchanged(t, "BricksOfAll")
		}
	}
}

func TestBricksForMetre(t *testing.T) {
	known := []struct {
		f        impl.Format
		num, den int64
	}{
		{decimetre, 50, 1}, {uk, 1600, 27}, {small, 1000, 3}, {large, 2500, 221}, {impl.Format{Length: 240, Width: 115, Height: 71, Joint: 10}, 4000, 81},
	}
	for _, k := range known {
		expect(t, fmt.Sprintf("BricksForMetre(%v)", k.f), values(impl.BricksForMetre(k.f)), impl.Fraction{Num: k.num, Den: k.den}, impl.OK)
	}
	for _, f := range append(validFormats(), formatsOfAllSizes()...) {
		want := new(big.Rat).Mul(big.NewRat(1000, f.Length+f.Joint), big.NewRat(1000, f.Height+f.Joint))
		expect(t, fmt.Sprintf("BricksForMetre(%v)", f), values(impl.BricksForMetre(f)), fraction(want), impl.OK)
	}
}

// TestBrickCountErrors: a format, a wall or a list that is not valid, beside zero values.
func TestBrickCountErrors(t *testing.T) {
	check := func(f impl.Format, list []impl.Piece) {
		t.Helper()
		guardedList, unchanged := guarded(list, garage)
		expect(t, fmt.Sprintf("BricksOfAll(%v, %s)", f, pieceOutline(list)), values(impl.BricksOfAll(f, guardedList)), 0, impl.ErrInvalid)
		unchanged(t, "BricksOfAll")
		for _, p := range list[:min(len(list), 1)] {
			if !impl.ValidFormat(f) || !impl.ValidPieces([]impl.Piece{p}) {
				expect(t, fmt.Sprintf("BricksOf(%v, %v)", f, p), values(impl.BricksOf(f, p)), 0, impl.ErrInvalid)
			}
		}
	}
	for _, f := range invalidFormats() {
		expect(t, fmt.Sprintf("BricksForMetre(%v)", f), values(impl.BricksForMetre(f)), impl.Fraction{}, impl.ErrInvalid)
		for _, list := range [][]impl.Piece{nil, {garage}, {leastWall, greatWall}, {{}}, slices.Repeat([]impl.Piece{garage}, 21)} {
			check(f, list)
		}
	}
	for _, list := range invalidPieceLists() {
		check(uk, list)
		check(decimetre, list)
	}
}

func TestWithWaste(t *testing.T) {
	known := []struct{ bricks, permille, want int64 }{
		{101, 50, 107}, {100, 50, 105}, {1000, 50, 1050}, {0, 0, 0}, {0, 1, 0}, {0, 1000, 0}, {1, 0, 1}, {1, 1, 2}, {1, 999, 2}, {1, 1000, 2}, {2, 500, 3}, {3, 500, 5},
		{1000000, 0, 1000000}, {1000000, 1, 1001000}, {1000000, 1000, 2000000}, {1000000, 999, 1999000}, {999999, 1000, 1999998}, {999999, 999, 1998999}, {999999, 0, 999999}, {999999, 1, 1000999},
		// a remainder of one thousandth, none, and one of all but one thousandth
		{1001, 1, 1003}, {1000, 1, 1001}, {999, 1, 1000}, {1001, 999, 2001}, {1, 500, 2}, {500, 2, 501}, {500, 1, 501}, {500, 3, 502},
	}
	for _, k := range known {
		expect(t, fmt.Sprintf("WithWaste(%d, %d)", k.bricks, k.permille), values(impl.WithWaste(k.bricks, k.permille)), k.want, impl.OK)
	}
	for _, bricks := range []int64{0, 1, 2, 3, 7, 99, 100, 101, 499, 500, 501, 999, 1000, 1001, 54321, 999999, 1000000} {
		for permille := int64(0); permille <= 1000; permille++ {
			waste := new(big.Rat).Mul(big.NewRat(bricks, 1), big.NewRat(permille, 1000))
			expect(t, fmt.Sprintf("WithWaste(%d, %d)", bricks, permille), values(impl.WithWaste(bricks, permille)), bricks+wantedUp(waste), impl.OK)
		}
	}
}

func TestPacksFor(t *testing.T) {
	known := []struct{ bricks, pack, packs, left int64 }{
		{1000, 300, 4, 200}, {0, 1, 0, 0}, {0, 1000, 0, 0}, {1, 1, 1, 0}, {1, 1000, 1, 999}, {2, 1, 2, 0}, {1000000, 1, 1000000, 0}, {1000000, 1000, 1000, 0}, {999999, 1000, 1000, 1}, {999001, 1000, 1000, 999}, {999000, 1000, 999, 0}, {1000000, 999, 1002, 998}, {1000000, 7, 142858, 6},
		// just full, with one brick more, and with one brick less
		{900, 300, 3, 0}, {901, 300, 4, 299}, {899, 300, 3, 1}, {300, 300, 1, 0}, {301, 300, 2, 299}, {299, 300, 1, 1},
	}
	for _, k := range known {
		expect(t, fmt.Sprintf("PacksFor(%d, %d)", k.bricks, k.pack), values(impl.PacksFor(k.bricks, k.pack)), k.packs, k.left, impl.OK)
	}
	for _, bricks := range []int64{0, 1, 2, 299, 300, 301, 999, 1000, 1001, 65537, 999999, 1000000} {
		for pack := int64(1); pack <= 1000; pack++ {
			packs, left, code := impl.PacksFor(bricks, pack)
			if code != impl.OK || packs*pack-left != bricks || left < 0 || left >= pack || packs < 0 {
				t.Errorf("PacksFor(%d, %d): got %d %d %d", bricks, pack, packs, left, code)
			}
		}
	}
}

func TestMortarFor(t *testing.T) {
	known := []struct {
		f                impl.Format
		bricks, num, den int64
	}{
		{decimetre, 1000, 461, 1}, {decimetre, 1, 461, 1000}, {decimetre, 2, 461, 500}, {decimetre, 1000000, 461000, 1}, {uk, 1, 9291, 20000}, {uk, 20000, 9291, 1}, {large, 1000000, 5118000, 1},
		// no bricks, and no joints
		{decimetre, 0, 0, 1}, {uk, 0, 0, 1}, {small, 0, 0, 1}, {small, 1, 0, 1}, {small, 1000000, 0, 1}, {impl.Format{Length: 500, Width: 250, Height: 150}, 999999, 0, 1},
	}
	for _, k := range known {
		expect(t, fmt.Sprintf("MortarFor(%v, %d)", k.f, k.bricks), values(impl.MortarFor(k.f, k.bricks)), impl.Fraction{Num: k.num, Den: k.den}, impl.OK)
	}
	for _, f := range append(validFormats(), decimetre, small, large) {
		for _, bricks := range []int64{0, 1, 2, 3, 10, 125, 640, 999, 1000, 999999, 1000000} {
			volume := new(big.Rat).Mul(big.NewRat(f.Length+f.Joint, 100), big.NewRat((f.Width+f.Joint)*(f.Height+f.Joint), 10000))
			volume.Sub(volume, new(big.Rat).Mul(big.NewRat(f.Length, 100), big.NewRat(f.Width*f.Height, 10000)))
			want := volume.Mul(volume, big.NewRat(bricks, 1))
			expect(t, fmt.Sprintf("MortarFor(%v, %d)", f, bricks), values(impl.MortarFor(f, bricks)), fraction(want), impl.OK)
		}
	}
}

func TestBagsFor(t *testing.T) {
	const most = 1000000000000
	known := []struct{ num, den, each, want int64 }{
		{461, 1, 20, 24}, {81, 2, 20, 3}, {460, 1, 20, 23}, {40, 1, 20, 2}, {41, 1, 20, 3}, {39, 1, 20, 2}, {1, 1, 1, 1}, {1, 2, 1, 1}, {3, 2, 1, 2}, {1, 1, 1000, 1}, {1, 1000000, 1000, 1}, {1000, 1, 1000, 1}, {1001, 1, 1000, 2}, {999, 1, 1000, 1},
		// no litres, and the most of them
		{0, 1, 1, 0}, {0, 1000000, 1000, 0}, {0, 1, 1000, 0}, {0, 1000000, 1, 0}, {most, 1, 1, most}, {most - 1, 1, 1, most - 1}, {most, 1, 1000, 1000000000}, {most - 1, 1, 1000, 1000000000}, {most - 999, 1, 1000, 1000000000}, {most - 1000, 1, 1000, 999999999}, {most, 1000000, 1000, 1000}, {most, 1000000, 1, 1000000}, {most - 1, 1000000, 1000, 1000}, {most, 999999, 1000, 1001}, {most, 999999, 1, 1000002}, {most, 2, 1, most / 2}, {most - 1, 2, 1, most / 2},
		// fractions that are not in lowest terms are what they are in lowest terms
		{160, 4, 20, 2}, {162, 4, 20, 3}, {161, 4, 20, 3}, {158, 4, 20, 2}, {500000, 1000000, 1, 1}, {1000000, 1000000, 1, 1}, {1500000, 1000000, 1, 2}, {40000000, 1000000, 20, 2}, {40000001, 1000000, 20, 3}, {922, 2, 20, 24},
	}
	for _, k := range known {
		expect(t, fmt.Sprintf("BagsFor(%d/%d, %d)", k.num, k.den, k.each), values(impl.BagsFor(impl.Fraction{Num: k.num, Den: k.den}, k.each)), k.want, impl.OK)
	}
	for _, num := range []int64{0, 1, 2, 3, 19, 20, 21, 461, 1000, 123456789, most - 1, most} {
		for _, den := range []int64{1, 2, 3, 4, 20, 999, 1000, 999999, 1000000} {
			for _, each := range []int64{1, 2, 3, 20, 25, 999, 1000} {
				want := wantedUp(new(big.Rat).Quo(big.NewRat(num, den), big.NewRat(each, 1)))
				expect(t, fmt.Sprintf("BagsFor(%d/%d, %d)", num, den, each), values(impl.BagsFor(impl.Fraction{Num: num, Den: den}, each)), want, impl.OK)
			}
		}
	}
	// the mortar of a wall as it is
	mortar, _ := impl.MortarFor(decimetre, 1000)
	expect(t, "BagsFor the mortar", values(impl.BagsFor(mortar, 20)), 24, impl.OK)
}

// TestCountErrors: numbers out of range, each beside zero values; a format that is not valid is told before them.
func TestCountErrors(t *testing.T) {
	few := append(outside(0, impl.MaxOrder), -1, 1000001)
	for _, bricks := range few {
		for _, n := range []int64{-1, 0, 1, 500, 1000, 1001} {
			expect(t, fmt.Sprintf("WithWaste(%d, %d)", bricks, n), values(impl.WithWaste(bricks, n)), 0, impl.ErrRange)
			expect(t, fmt.Sprintf("PacksFor(%d, %d)", bricks, n), values(impl.PacksFor(bricks, n)), 0, 0, impl.ErrRange)
		}
		expect(t, fmt.Sprintf("MortarFor(%d)", bricks), values(impl.MortarFor(uk, bricks)), impl.Fraction{}, impl.ErrRange)
		expect(t, fmt.Sprintf("MortarFor(%d) without joints", bricks), values(impl.MortarFor(small, bricks)), impl.Fraction{}, impl.ErrRange)
	}
	for _, bricks := range append([]int64{0, 1, 1000, 1000000}, few...) {
		for _, permille := range append(outside(0, 1000), -1, 1001) {
			expect(t, fmt.Sprintf("WithWaste(%d, %d)", bricks, permille), values(impl.WithWaste(bricks, permille)), 0, impl.ErrRange)
		}
		for _, pack := range append(outside(1, 1000), 0, 1001) {
			expect(t, fmt.Sprintf("PacksFor(%d, %d)", bricks, pack), values(impl.PacksFor(bricks, pack)), 0, 0, impl.ErrRange)
		}
		for _, f := range invalidFormats() {
			expect(t, fmt.Sprintf("MortarFor(%v, %d)", f, bricks), values(impl.MortarFor(f, bricks)), impl.Fraction{}, impl.ErrInvalid)
		}
	}
}

// TestBagErrors moves each of the three numbers out of its range, alone and together with others.
func TestBagErrors(t *testing.T) {
	const most = 1000000000000
	check := func(num, den, each int64) {
		t.Helper()
		expect(t, fmt.Sprintf("BagsFor(%d/%d, %d)", num, den, each), values(impl.BagsFor(impl.Fraction{Num: num, Den: den}, each)), 0, impl.ErrRange)
	}
	nums, dens, bags := append(outside(0, most), -1, most+1), append(outside(1, 1000000), 0, 1000001), append(outside(1, 1000), 0, 1001)
	for _, num := range nums {
		for _, den := range append([]int64{1, 1000000}, dens...) {
			for _, each := range append([]int64{1, 1000}, bags...) {
				check(num, den, each)
			}
		}
	}
	for _, num := range []int64{0, 1, 461, most} {
		for _, den := range dens {
			for _, each := range append([]int64{1, 1000}, bags...) {
				check(num, den, each)
			}
		}
		for _, each := range bags {
			check(num, 1, each)
			check(num, 1000000, each)
		}
	}
}

func TestShareBricks(t *testing.T) {
	many := slices.Repeat([]impl.Piece{leastWall}, 20)
	known := []struct {
		list   []impl.Piece
		bricks int64
		want   []int64
	}{
		{[]impl.Piece{garage, wallOf(2000, 500)}, 100, []int64{66, 34}}, {[]impl.Piece{garage, wallOf(2000, 500)}, 150, []int64{100, 50}}, {[]impl.Piece{wallOf(2000, 500), garage}, 100, []int64{33, 67}}, {[]impl.Piece{garage, wallOf(2000, 500)}, 1000000, []int64{666666, 333334}},
		// one wall has all of them
		{[]impl.Piece{garage}, 0, []int64{0}}, {[]impl.Piece{garage}, 1, []int64{1}}, {[]impl.Piece{leastWall}, 1000000, []int64{1000000}}, {[]impl.Piece{greatWall}, 1000000, []int64{1000000}},
		// equal walls: what is rounded down goes on to the walls behind
		{many[:3], 0, []int64{0, 0, 0}}, {many[:3], 1, []int64{0, 0, 1}}, {many[:3], 2, []int64{0, 1, 1}}, {many[:3], 3, []int64{1, 1, 1}}, {many[:3], 4, []int64{1, 1, 2}}, {many[:3], 5, []int64{1, 2, 2}}, {many[:4], 2, []int64{0, 1, 0, 1}}, {many[:4], 6, []int64{1, 2, 1, 2}},
		{many, 1, append(make([]int64, 19), 1)}, {many, 20, slices.Repeat([]int64{1}, 20)}, {many, 1000000, slices.Repeat([]int64{50000}, 20)}, {many, 19, append([]int64{0}, slices.Repeat([]int64{1}, 19)...)},
		// the bricks of the walls count, not their areas: both have one brick
		{[]impl.Piece{leastWall, wallOf(20000, 1)}, 10, []int64{5, 5}}, {[]impl.Piece{wallOf(20001, 1), leastWall}, 10, []int64{6, 4}},
		{[]impl.Piece{leastWall, greatWall}, 1000000, []int64{1, 999999}}, {[]impl.Piece{leastWall, greatWall}, 600000, []int64{0, 600000}}, {[]impl.Piece{leastWall, greatWall}, 600001, []int64{1, 600000}}, {[]impl.Piece{greatWall, leastWall}, 1000000, []int64{999998, 2}}, {[]impl.Piece{greatWall, leastWall}, 600001, []int64{600000, 1}}, {[]impl.Piece{greatWall, leastWall}, 1, []int64{0, 1}},
	}
	for _, k := range known {
		expect(t, fmt.Sprintf("ShareBricks(%v, %d)", k.list, k.bricks), values(impl.ShareBricks(decimetre, k.list, k.bricks)), k.want, impl.OK)
	}
}

// TestShareBricksOfAll: the shares of many lists, with what all walls up to each one have together, and with their sum.
func TestShareBricksOfAll(t *testing.T) {
	for _, f := range append(validFormats()[:20], decimetre, small, large) {
		for _, walls := range validPieceLists() {
			if len(walls) == 0 {
				continue
			}
			all := new(big.Rat)
			for _, p := range walls {
				all.Add(all, big.NewRat(wantedBricks(f, p), 1))
			}
			for _, bricks := range []int64{0, 1, 2, 7, 100, 1999, 999999, 1000000} {
				list, unchanged := guarded(walls, impl.Piece{Length: 77})
				shares, code := impl.ShareBricks(f, list, bricks)
				unchanged(t, "ShareBricks")
				expect(t, fmt.Sprintf("ShareBricks(%v, %v, %d)", f, walls, bricks), values(len(shares), code), len(walls), impl.OK)
				needed, given := new(big.Rat), int64(0)
				for k, p := range walls {
					needed.Add(needed, big.NewRat(wantedBricks(f, p), 1))
					given += shares[k]
					want := new(big.Rat).Mul(big.NewRat(bricks, 1), new(big.Rat).Quo(needed, all))
					if down := new(big.Int).Quo(want.Num(), want.Denom()).Int64(); given != down || shares[k] < 0 {
						t.Errorf("ShareBricks(%v, %v, %d): got %v, which has %d up to %d, not %d", f, walls, bricks, shares, given, k, down)
					}
				}
				expect(t, "the sum of the shares", values(given), bricks)
			}
		}
	}
}

// TestShareErrors: what is not valid, then bricks out of range, and then no walls, each beside zero values.
func TestShareErrors(t *testing.T) {
	check := func(f impl.Format, list []impl.Piece, bricks, code int64) {
		t.Helper()
		guardedList, unchanged := guarded(list, garage)
		expect(t, fmt.Sprintf("ShareBricks(%v, %s, %d)", f, pieceOutline(list), bricks), values(impl.ShareBricks(f, guardedList, bricks)), []int64(nil), code)
		unchanged(t, "ShareBricks")
	}
	few := append(outside(0, impl.MaxOrder), -1, 1000001)
	for _, f := range invalidFormats() {
		for _, list := range [][]impl.Piece{nil, {}, {garage}, {{}}} {
			for _, bricks := range []int64{-1, 0, 100, 1000001} {
				check(f, list, bricks, impl.ErrInvalid)
			}
		}
	}
	for _, list := range invalidPieceLists() {
		for _, bricks := range append([]int64{0, 100}, few...) {
			check(decimetre, list, bricks, impl.ErrInvalid)
		}
	}
	for _, list := range [][]impl.Piece{nil, {}, {garage}, {leastWall, greatWall}, slices.Repeat([]impl.Piece{garage}, 20)} {
		for _, bricks := range few {
			check(decimetre, list, bricks, impl.ErrRange)
		}
	}
	for _, bricks := range []int64{0, 1, 100, 1000000} {
		check(decimetre, nil, bricks, impl.ErrNotFound)
		check(decimetre, []impl.Piece{}, bricks, impl.ErrNotFound)
		check(small, nil, bricks, impl.ErrNotFound)
	}
}

// pricesOf returns the price of some packs, and how many bricks they have.
func pricesOf(sizes, prices, packs []int64) (price, bricks int64) {
	for k, n := range packs {
		price += n * prices[k]
		bricks += n * sizes[k]
	}
	return price, bricks
}

// eachPacks visits all lists of packs from the size k on without a pack too many: the same memory in each visit.
func eachPacks(sizes, packs []int64, k int, bricks int64, visit func()) {
	if k == len(sizes) {
		visit()
		return
	}
	for n := int64(0); n == 0 || (n-1)*sizes[k] < bricks; n++ {
		packs[k] = n
		eachPacks(sizes, packs, k+1, max(bricks-n*sizes[k], 0), visit)
	}
	packs[k] = 0
}

// wantedPacks looks at all lists of packs: of those with enough bricks it returns that with the least price, of several that with the most packs of
// the last size, then of the one before it, and so on: if the last size can be taken at some time, it can be taken at once. And it returns how many have the least price.
func wantedPacks(sizes, prices []int64, bricks int64) (best []int64, count int) {
	packs := make([]int64, len(sizes))
	least := int64(-1)
	eachPacks(sizes, packs, 0, bricks, func() {
		price, has := pricesOf(sizes, prices, packs)
		if has < bricks || least >= 0 && price > least {
			return
		}
		if price != least {
			best, least, count = nil, price, 0
		}
		count++
		if best == nil || comparePacks(packs, best) > 0 {
			best = slices.Clone(packs)
		}
	})
	return best, count
}

// comparePacks compares lists of packs from the last size on.
func comparePacks(a, b []int64) int {
	for k := len(a) - 1; k >= 0; k-- {
		if a[k] != b[k] {
			return int(a[k] - b[k])
		}
	}
	return 0
}

// packOffers are sizes and prices: one size and 5 sizes, the least and the greatest ones, and those with many lists of the same price.
func packOffers() [][2][]int64 {
	return [][2][]int64{
		{{1}, {1}}, {{1000}, {100000}}, {{7}, {3}}, {{50, 200}, {30, 100}}, {{1, 2}, {1, 2}}, {{1, 2, 3}, {1, 2, 3}}, {{2, 3}, {2, 3}}, {{3, 4, 5}, {3, 4, 5}}, {{50, 200}, {100, 100}}, {{50, 200}, {100000, 1}}, {{50, 200}, {1, 100000}}, {{10, 20, 30}, {5, 5, 5}}, {{1, 2, 3, 4, 5}, {1, 2, 3, 4, 5}}, {{1, 2, 3, 4, 5}, {5, 4, 3, 2, 1}},
		{{3, 7, 11}, {4, 9, 14}}, {{6, 10, 15}, {6, 10, 15}}, {{4, 6, 9, 20}, {5, 7, 10, 23}}, {{5, 8, 12, 17, 23}, {6, 9, 14, 19, 26}}, {{1, 999, 1000}, {1, 500, 501}}, {{9, 10, 11}, {90, 100, 110}}, {{2, 4, 6, 8, 10}, {1, 2, 3, 4, 5}}, {{5, 7}, {10, 10}}, {{996, 997, 998, 999, 1000}, {100000, 100000, 100000, 100000, 100000}}, {{996, 997, 998, 999, 1000}, {1, 1, 1, 1, 1}},
	}
}

func TestCheapestPacks(t *testing.T) {
	known := []struct {
		sizes, prices []int64
		bricks        int64
		want          []int64
	}{
		{[]int64{50, 200}, []int64{30, 100}, 260, []int64{2, 1}}, {[]int64{50, 200}, []int64{30, 100}, 380, []int64{0, 2}}, {[]int64{50, 200}, []int64{30, 100}, 0, []int64{0, 0}}, {[]int64{50, 200}, []int64{30, 100}, 250, []int64{1, 1}}, {[]int64{50, 200}, []int64{30, 100}, 251, []int64{2, 1}}, {[]int64{50, 200}, []int64{30, 100}, 150, []int64{3, 0}}, {[]int64{50, 200}, []int64{30, 100}, 151, []int64{0, 1}},
		// one size and 5 sizes; no bricks, and the most of them
		{[]int64{1}, []int64{1}, 0, []int64{0}}, {[]int64{1}, []int64{100000}, 3000, []int64{3000}}, {[]int64{1000}, []int64{100000}, 3000, []int64{3}}, {[]int64{1000}, []int64{1}, 2001, []int64{3}}, {[]int64{1000}, []int64{1}, 2000, []int64{2}}, {[]int64{1000}, []int64{1}, 1, []int64{1}}, {[]int64{7}, []int64{3}, 2999, []int64{429}}, {[]int64{7}, []int64{3}, 14, []int64{2}}, {[]int64{7}, []int64{3}, 15, []int64{3}},
		{[]int64{1, 2, 3, 4, 5}, []int64{9, 9, 9, 9, 9}, 0, []int64{0, 0, 0, 0, 0}}, {[]int64{1, 2, 3, 4, 5}, []int64{9, 9, 9, 9, 9}, 3000, []int64{0, 0, 0, 0, 600}}, {[]int64{1, 250, 500, 750, 1000}, []int64{1, 249, 499, 749, 999}, 3000, []int64{0, 12, 0, 0, 0}},
		// several lists with the least price: the last size is taken as long as the price stays the least one, also where it has bricks left over
		{[]int64{1, 2}, []int64{1, 2}, 4, []int64{0, 2}}, {[]int64{1, 2}, []int64{1, 2}, 3, []int64{1, 1}}, {[]int64{1, 2, 3}, []int64{1, 2, 3}, 4, []int64{1, 0, 1}}, {[]int64{1, 2, 3}, []int64{1, 2, 3}, 3000, []int64{0, 0, 1000}}, {[]int64{2, 3}, []int64{2, 3}, 4, []int64{2, 0}}, {[]int64{2, 3}, []int64{2, 3}, 6, []int64{0, 2}}, {[]int64{2, 3}, []int64{2, 3}, 7, []int64{2, 1}}, {[]int64{3, 4, 5}, []int64{3, 4, 5}, 7, []int64{1, 1, 0}}, {[]int64{3, 4, 5}, []int64{3, 4, 5}, 8, []int64{1, 0, 1}},
		{[]int64{50, 200}, []int64{100, 100}, 50, []int64{0, 1}}, {[]int64{50, 200}, []int64{100, 100}, 1, []int64{0, 1}}, {[]int64{10, 20, 30}, []int64{5, 5, 5}, 5, []int64{0, 0, 1}}, {[]int64{10, 20, 30}, []int64{5, 5, 10}, 20, []int64{0, 1, 0}}, {[]int64{10, 20, 30}, []int64{5, 10, 10}, 20, []int64{0, 0, 1}}, {[]int64{10, 20, 30}, []int64{5, 10, 16}, 30, []int64{1, 1, 0}}, {[]int64{5, 7}, []int64{10, 10}, 10, []int64{0, 2}}, {[]int64{5, 7}, []int64{10, 10}, 15, []int64{0, 3}}, {[]int64{5, 6}, []int64{5, 6}, 16, []int64{2, 1}},
		// the cheapest pack for each of its bricks need not be bought
		{[]int64{50, 200}, []int64{100000, 1}, 1, []int64{0, 1}}, {[]int64{50, 200}, []int64{1, 100000}, 201, []int64{5, 0}}, {[]int64{3, 5}, []int64{4, 6}, 6, []int64{2, 0}}, {[]int64{3, 5}, []int64{4, 6}, 5, []int64{0, 1}}, {[]int64{3, 5}, []int64{4, 6}, 9, []int64{0, 2}}, {[]int64{3, 5}, []int64{4, 6}, 8, []int64{1, 1}},
	}
	for _, k := range known {
		sizes, unchangedSizes := guarded(k.sizes, 77)
		prices, unchangedPrices := guarded(k.prices, 77)
		call := fmt.Sprintf("CheapestPacks(%v, %v, %d)", k.sizes, k.prices, k.bricks)
		expect(t, call, values(impl.CheapestPacks(sizes, prices, k.bricks)), k.want, impl.OK)
		unchangedSizes(t, call)
		unchangedPrices(t, call)
	}
}

// TestPromise11Enough: the cheapest packs have enough bricks, no others with enough of them cost less, and of several the told ones are returned.
func TestPromise11Enough(t *testing.T) {
	several := 0
	for _, offer := range packOffers() {
		sizes, prices := offer[0], offer[1]
		until := min(int64(60), 12*sizes[0]+20)
		for bricks := int64(0); bricks <= until; bricks++ {
			want, count := wantedPacks(sizes, prices, bricks)
			if count > 1 {
				several++
			}
			call := fmt.Sprintf("CheapestPacks(%v, %v, %d)", sizes, prices, bricks)
			packs, code := impl.CheapestPacks(sizes, prices, bricks)
			expect(t, call, values(packs, code), want, impl.OK)
			if _, has := pricesOf(sizes, prices, packs); has < bricks {
				t.Errorf("%s: got %v, which has only %d bricks", call, packs, has)
			}
		}
	}
	expect(t, "there are several lists with the least price", values(several > 100), true)
}

// TestSmallOffers: all offers of two and of three small packs with low prices.
func TestSmallOffers(t *testing.T) {
	check := func(sizes, prices []int64) {
		for _, bricks := range []int64{1, 2, 3, 5, 8, 13} {
			want, _ := wantedPacks(sizes, prices, bricks)
			packs, code := impl.CheapestPacks(sizes, prices, bricks)
			if !slices.Equal(packs, want) || code != impl.OK {
				t.Errorf("CheapestPacks(%v, %v, %d): got %v %d, want %v 0", sizes, prices, bricks, packs, code, want)
			}
		}
	}
	for a := int64(1); a <= 4; a++ {
		for b := a + 1; b <= 5; b++ {
			for c := b + 1; c <= 7; c++ {
				for prices := range int64(64) {
					p, q, r := 1+prices%4, 1+prices/4%4, 1+prices/16
					check([]int64{a, b}, []int64{p, q})
					check([]int64{a, b, c}, []int64{p, q, r})
				}
			}
		}
	}
}

// leastPrices returns the least price for at least each number of bricks: first that for just so many, pack by pack, and then the least one of more bricks.
func leastPrices(sizes, prices []int64, until int64) []int64 {
	const none = 1 << 60
	least := slices.Repeat([]int64{none}, int(until)+1001)
	least[0] = 0
	for k, size := range sizes {
		for bricks := size; bricks < int64(len(least)); bricks++ {
			least[bricks] = min(least[bricks], least[bricks-size]+prices[k])
		}
	}
	for bricks := len(least) - 2; bricks >= 0; bricks-- {
		least[bricks] = min(least[bricks], least[bricks+1])
	}
	return least[:until+1]
}

// TestGreatOrders: up to 3000 bricks the packs have the least price, and the told ones are returned: one pack after the other, the last size that may be taken.
func TestGreatOrders(t *testing.T) {
	for _, offer := range packOffers() {
		sizes, prices := offer[0], offer[1]
		least := leastPrices(sizes, prices, 3000)
		for bricks := int64(0); bricks <= 3000; bricks += 1 + (bricks*7)%37 {
			want := make([]int64, len(sizes))
			for rest := bricks; rest > 0; {
				k := len(sizes) - 1
				for prices[k]+least[max(rest-sizes[k], 0)] != least[rest] {
					k--
				}
				want[k]++
				rest -= sizes[k]
			}
			packs, code := impl.CheapestPacks(sizes, prices, bricks)
			expect(t, fmt.Sprintf("CheapestPacks(%v, %v, %d)", sizes, prices, bricks), values(packs, code), want, impl.OK)
			price, has := pricesOf(sizes, prices, packs)
			expect(t, fmt.Sprintf("the price of %v, %v, %d", sizes, prices, bricks), values(price, has >= bricks), least[bricks], true)
		}
		packs, code := impl.CheapestPacks(sizes, prices, 3000)
		price, has := pricesOf(sizes, prices, packs)
		expect(t, fmt.Sprintf("CheapestPacks(%v, %v, 3000)", sizes, prices), values(code, price, has >= 3000), impl.OK, least[3000], true)
	}
}

func TestCheapestPacksErrors(t *testing.T) {
	check := func(sizes, prices []int64, bricks int64) {
		t.Helper()
		guardedSizes, unchangedSizes := guarded(sizes, 77)
		guardedPrices, unchangedPrices := guarded(prices, 77)
		call := fmt.Sprintf("CheapestPacks of %d sizes %v, %v, %d", len(sizes), sizes[:min(len(sizes), 7)], prices[:min(len(prices), 7)], bricks)
		expect(t, call, values(impl.CheapestPacks(guardedSizes, guardedPrices, bricks)), []int64(nil), impl.ErrRange)
		unchangedSizes(t, call)
		unchangedPrices(t, call)
	}
	for _, bricks := range []int64{0, 1, 3000} {
		// no sizes, and too many
		check(nil, nil, bricks)
		check([]int64{}, []int64{}, bricks)
		check(rising(6, 10, 10), rising(6, 5, 5), bricks)
		check(rising(1000, 1, 1), rising(1000, 1, 1), bricks)
		// sizes and prices of different numbers
		for n := range 7 {
			for m := range 7 {
				if n != m {
					check(rising(n, 10, 10), rising(m, 5, 5), bricks)
				}
			}
		}
		// sizes that are equal or fall
		for _, sizes := range [][]int64{{50, 50}, {200, 50}, {51, 50}, {1, 1}, {1000, 1000}, {10, 20, 20}, {10, 10, 20}, {10, 20, 19}, {30, 20, 10}, {10, 20, 30, 40, 40}, {10, 20, 30, 40, 10}, {10, 30, 20, 40, 50}} {
			check(sizes, rising(len(sizes), 5, 5), bricks)
		}
		for _, n := range append(outside(1, 1000), 0, 1001) {
			for _, sizes := range [][]int64{{n}, {n, 1000}, {1, n}, {1, n, 1000}, {10, 20, 30, 40, n}, {n, n}} {
				check(sizes, rising(len(sizes), 5, 5), bricks)
			}
		}
		for _, n := range append(outside(1, 100000), 0, 100001) {
			for _, prices := range [][]int64{{n}, {n, 5}, {5, n}, {5, n, 5}, {5, 5, 5, 5, n}, {n, n}} {
				check(rising(len(prices), 10, 10), prices, bricks)
			}
		}
	}
	for _, bricks := range append(outside(0, 3000), -1, 3001) {
		check([]int64{50, 200}, []int64{30, 100}, bricks)
		check([]int64{1}, []int64{1}, bricks)
		check(nil, nil, bricks)
		check([]int64{50, 50}, []int64{0, 100001}, bricks)
	}
}

// TestOfferLimits moves the number of sizes, one size, one price and the bricks over their limits.
func TestOfferLimits(t *testing.T) {
	code := func(sizes, prices []int64, bricks int64) int64 {
		_, got := impl.CheapestPacks(sizes, prices, bricks)
		return got
	}
	wanted := func(isRight bool) int64 {
		if isRight {
			return impl.OK
		}
		return impl.ErrRange
	}
	for n := int64(-5); n <= 1005; n++ {
		expect(t, fmt.Sprintf("the size %d", n), values(code([]int64{n}, []int64{1}, 10), code([]int64{300, n}, []int64{1, 1}, 10), code([]int64{n, 300}, []int64{1, 1}, 10)), wanted(n >= 1 && n <= 1000), wanted(n > 300 && n <= 1000), wanted(n >= 1 && n < 300))
		expect(t, fmt.Sprintf("the price %d, and the price %d", n, 99500+n), values(code([]int64{7}, []int64{n}, 10), code([]int64{7, 9}, []int64{1, 99500 + n}, 10)), wanted(n >= 1), wanted(n <= 500))
		expect(t, fmt.Sprintf("%d bricks, and %d bricks", n, 2500+n), values(code([]int64{7}, []int64{3}, n), code([]int64{7}, []int64{3}, 2500+n)), wanted(n >= 0), wanted(n <= 500))
	}
	for n := range 10 {
		expect(t, fmt.Sprintf("%d sizes", n), values(code(rising(n, 1, 1), rising(n, 1, 1), 10)), wanted(n >= 1 && n <= 5))
	}
}

// TestPromise1Quantities: every function of chapter 11 returns for all arguments, modifies none, and keeps none of its results.
func TestPromise1Quantities(t *testing.T) {
	numbers := append([]int64{2, 300, 1000, 1001, 3000, 3001, 1000000, 1000001}, extremes...)
	lists := append(validPieceLists(), invalidPieceLists()[:40]...)
	for _, n := range numbers {
		for _, m := range numbers {
			expect(t, "WithWaste", values(impl.WithWaste(n, m)), values(impl.WithWaste(n, m))...)
			expect(t, "PacksFor", values(impl.PacksFor(n, m)), values(impl.PacksFor(n, m))...)
			expect(t, "PieceText", values(impl.PieceText(impl.Piece{Length: n, Height: m, Halves: n})), impl.PieceText(impl.Piece{Length: n, Height: m, Halves: n}))
			for _, x := range numbers {
				litres := impl.Fraction{Num: n, Den: m}
				expect(t, "BagsFor", values(impl.BagsFor(litres, x)), values(impl.BagsFor(litres, x))...)
				again(t, "CheapestPacks", 77, func() ([]int64, int64) { return impl.CheapestPacks([]int64{1, n}, []int64{m, 5}, x) })
			}
		}
		for _, offer := range packOffers() {
			sizes, unchangedSizes := guarded(offer[0], 77)
			prices, unchangedPrices := guarded(offer[1], 77)
			again(t, "CheapestPacks", 77, func() ([]int64, int64) { return impl.CheapestPacks(sizes, prices, n) })
			unchangedSizes(t, "CheapestPacks")
			unchangedPrices(t, "CheapestPacks")
		}
		for _, f := range []impl.Format{uk, decimetre, {}, {Length: n, Width: n, Height: n, Joint: n}} {
			expect(t, "MortarFor", values(impl.MortarFor(f, n)), values(impl.MortarFor(f, n))...)
			expect(t, "BricksForMetre", values(impl.BricksForMetre(f)), values(impl.BricksForMetre(f))...)
			for _, walls := range lists {
				list, unchanged := guarded(walls, impl.Piece{Length: 77})
				expect(t, "ValidPieces", values(impl.ValidPieces(list)), impl.ValidPieces(list))
				expect(t, "BricksOfAll", values(impl.BricksOfAll(f, list)), values(impl.BricksOfAll(f, list))...)
				again(t, "ShareBricks", 77, func() ([]int64, int64) { return impl.ShareBricks(f, list, n) })
				unchanged(t, "all functions of chapter 11")
				for _, p := range list {
					expect(t, "BricksOf", values(impl.BricksOf(f, p)), values(impl.BricksOf(f, p))...)
				}
			}
		}
	}
}
