package tests

import (
	"fmt"
	"math/big"
	"regexp"
	"slices"
	"strconv"
	"strings"
	"testing"

	"loop.example/g01042/impl"
)

// Moulds that are valid: an ordinary one, and those at the limits of all fields.
var (
	wood  = impl.Mould{Length: 240, Width: 120, Height: 70, Uses: 15}
	least = impl.Mould{Length: 30, Width: 30, Height: 30}
	great = impl.Mould{Length: 800, Width: 800, Height: 800, Uses: impl.MaxUses}
)

// withUses returns a mould that is as large, but has been used otherwise.
func withUses(m impl.Mould, uses int64) impl.Mould {
	m.Uses = uses
	return m
}

// usedMoulds returns moulds with some Uses.
func usedMoulds(uses ...int64) []impl.Mould {
	var list []impl.Mould
	for _, n := range uses {
		list = append(list, withUses(wood, n))
	}
	return list
}

// validMoulds are moulds of all kinds: each field is at its limits and beside them.
func validMoulds() []impl.Mould {
	list := []impl.Mould{wood, least, great, {Length: 30, Width: 31, Height: 799}, {Length: 799, Width: 30, Height: 31, Uses: 1}}
	for _, size := range []int64{30, 31, 99, 100, 101, 799, 800} {
		list = append(list,
			impl.Mould{Length: size, Width: 120, Height: 70, Uses: 15},
			impl.Mould{Length: 240, Width: size, Height: 70, Uses: 15},
			impl.Mould{Length: 240, Width: 120, Height: size, Uses: 15})
	}
	for _, uses := range []int64{0, 1, 9, 10, 99999, impl.MaxUses} {
		list = append(list, withUses(wood, uses))
	}
	return list
}

// invalidMoulds have one fault each, or are far out of range.
func invalidMoulds() []impl.Mould {
	list := []impl.Mould{{}, {Uses: 15}, {Length: 240}, {Length: 240, Width: 120}, {Length: -240, Width: -120, Height: -70, Uses: -15}, {Length: 801, Width: 29, Height: 801, Uses: -1}}
	for _, n := range append([]int64{-30, 29, 801, 100000}, extremes...) {
		list = append(list,
			impl.Mould{Length: n, Width: 120, Height: 70, Uses: 15},
			impl.Mould{Length: 240, Width: n, Height: 70, Uses: 15},
			impl.Mould{Length: 240, Width: 120, Height: n, Uses: 15},
			impl.Mould{Length: n, Width: n, Height: n})
	}
	for _, n := range append([]int64{-2, -100000, 100001, 100002}, extremes...) {
		if n != 0 && n != 1 {
			list = append(list, withUses(wood, n), withUses(great, n))
		}
	}
	return list
}

// validMouldLists are lists of none, of one, of several and of MaxMoulds moulds.
func validMouldLists() [][]impl.Mould {
	lists := [][]impl.Mould{nil, {}, {wood, wood}, {least, great, wood}, {great, wood, least, wood, great}, slices.Repeat([]impl.Mould{wood}, 20), slices.Repeat([]impl.Mould{great}, 20), validMoulds()[:20]}
	for _, m := range validMoulds() {
		lists = append(lists, []impl.Mould{m}, []impl.Mould{wood, m}, []impl.Mould{m, least})
	}
	return lists
}

// invalidMouldLists have an invalid mould at any place, or a mould too many.
func invalidMouldLists() [][]impl.Mould {
	lists := [][]impl.Mould{slices.Repeat([]impl.Mould{wood}, 21), slices.Repeat([]impl.Mould{least}, 22), slices.Repeat([]impl.Mould{great}, 1000), make([]impl.Mould, 20), make([]impl.Mould, 21)}
	for _, m := range invalidMoulds() {
		lists = append(lists, []impl.Mould{m}, []impl.Mould{m, wood}, []impl.Mould{wood, m}, []impl.Mould{least, m, great})
	}
	for k := range impl.MaxMoulds {
		list := slices.Repeat([]impl.Mould{wood}, impl.MaxMoulds)
		list[k].Uses = -1
		lists = append(lists, list)
	}
	return lists
}

// outside returns numbers that are not low to high: those beside the limits, and extreme ones.
func outside(low, high int64) []int64 {
	list := []int64{low - 1, low - 2, high + 1, high + 2, -high}
	list = append(list, extremes...)
	return slices.DeleteFunc(list, func(n int64) bool { return low <= n && n <= high })
}

// wantedFired returns the greatest integer that is at most by one half greater than the exact size.
func wantedFired(size, shrink int64) int64 {
	n := size
	for 2*1000*n-2*size*(1000-shrink) > 1000 {
		n--
	}
	return n
}

func TestMouldConstants(t *testing.T) {
	expect(t, "constants", values(impl.MaxMoulds, impl.MaxUses), 20, 100000)
}

func TestValidMoulds(t *testing.T) {
	for _, list := range validMouldLists() {
		expect(t, fmt.Sprintf("ValidMoulds(%v)", list), values(impl.ValidMoulds(list)), true)
	}
	for _, list := range invalidMouldLists() {
		expect(t, fmt.Sprintf("ValidMoulds(%v)", list), values(impl.ValidMoulds(list)), false)
	}
	for n := range 30 {
		expect(t, fmt.Sprintf("ValidMoulds of %d", n), values(impl.ValidMoulds(slices.Repeat([]impl.Mould{great}, n))), n <= 20)
	}
}

// TestValidMouldsAtEachEdge moves one field at a time over its limits.
func TestValidMouldsAtEachEdge(t *testing.T) {
	valid := func(m impl.Mould) bool { return impl.ValidMoulds([]impl.Mould{wood, m}) }
	for n := int64(-900); n <= 900; n++ {
		right := 30 <= n && n <= 800
		expect(t, fmt.Sprintf("Length %d", n), values(valid(impl.Mould{Length: n, Width: 120, Height: 70})), right)
		expect(t, fmt.Sprintf("Width %d", n), values(valid(impl.Mould{Length: 240, Width: n, Height: 70})), right)
		expect(t, fmt.Sprintf("Height %d", n), values(valid(impl.Mould{Length: 240, Width: 120, Height: n})), right)
		expect(t, fmt.Sprintf("Uses %d", n), values(valid(withUses(wood, n))), 0 <= n)
		expect(t, fmt.Sprintf("Uses %d", 100000+n), values(valid(withUses(wood, 100000+n))), n <= 0)
	}
}

func TestSameMoulds(t *testing.T) {
	lists := append(validMouldLists()[1:], invalidMouldLists()[:60]...)
	for a, one := range lists {
		for b, other := range lists {
			same := fmt.Sprintf("%#v", one) == fmt.Sprintf("%#v", other)
			expect(t, fmt.Sprintf("SameMoulds of %d and %d", a, b), values(impl.SameMoulds(one, append([]impl.Mould{}, other...))), same)
		}
	}
	expect(t, "SameMoulds of nil and no moulds", values(impl.SameMoulds(nil, []impl.Mould{}), impl.SameMoulds([]impl.Mould{}, nil), impl.SameMoulds(nil, nil)), true, true, true)
	changed := []impl.Mould{
		{Length: 241, Width: 120, Height: 70, Uses: 15}, {Length: 240, Width: 121, Height: 70, Uses: 15}, {Length: 240, Width: 120, Height: 71, Uses: 15}, {Length: 240, Width: 120, Height: 70, Uses: 16},
		{Length: 120, Width: 240, Height: 70, Uses: 15}, {Length: 240, Width: 70, Height: 120, Uses: 15}, {}, least,
	}
	for _, m := range changed {
		expect(t, fmt.Sprintf("SameMoulds with %v", m), values(impl.SameMoulds([]impl.Mould{least, wood}, []impl.Mould{least, m}), impl.SameMoulds([]impl.Mould{m}, []impl.Mould{wood})), false, false)
	}
	expect(t, "SameMoulds of a part", values(impl.SameMoulds([]impl.Mould{wood}, []impl.Mould{wood, great}), impl.SameMoulds([]impl.Mould{wood, great}, []impl.Mould{wood})), false, false)
	expect(t, "SameMoulds in another order", values(impl.SameMoulds([]impl.Mould{wood, great}, []impl.Mould{great, wood})), false)
}

// TestMouldsExample is the example of chapter 5.
func TestMouldsExample(t *testing.T) {
	sizes, code := impl.FiredSize(wood, 100)
	expect(t, "FiredSize", values(sizes[0], code), 216, impl.OK)
}

func TestFiredSize(t *testing.T) {
	known := []struct{ size, shrink, fired int64 }{
		{240, 100, 216}, {120, 100, 108}, {70, 100, 63}, {30, 0, 30}, {30, 1, 30}, {30, 200, 24}, {800, 0, 800}, {800, 1, 799}, {800, 199, 641}, {800, 200, 640}, {799, 200, 639}, {31, 200, 25}, {777, 0, 777},
		// exactly halfway between two integers: 499.5, 28.5, 94.5 and 400.5
		{500, 1, 500}, {30, 50, 29}, {105, 100, 95}, {445, 100, 401},
		// just above halfway: 498.501 and 354.501; just below: 500.499 and 166.499
		{499, 1, 499}, {357, 7, 355}, {501, 1, 500}, {167, 3, 166},
		// 30 makes bricks of 30 as long as the shrinkage is small
		{30, 16, 30}, {30, 17, 29}, {31, 17, 30},
	}
	for _, k := range known {
		call := fmt.Sprintf("FiredSize of %d with the shrinkage %d", k.size, k.shrink)
		expect(t, call+" as Length", values(impl.FiredSize(impl.Mould{Length: k.size, Width: 100, Height: 200}, 0)), []int64{k.size, 100, 200}, impl.OK)
		for place := range 3 {
			sizes := []int64{100, 100, 100}
			sizes[place] = k.size
			want := []int64{wantedFired(100, k.shrink), wantedFired(100, k.shrink), wantedFired(100, k.shrink)}
			want[place] = k.fired
			m := impl.Mould{Length: sizes[0], Width: sizes[1], Height: sizes[2], Uses: 7}
			expect(t, fmt.Sprintf("%s at %d", call, place), values(impl.FiredSize(m, k.shrink)), want, impl.OK)
		}
	}
	expect(t, "FiredSize of a mould", values(impl.FiredSize(wood, 100)), []int64{216, 108, 63}, impl.OK)
	expect(t, "FiredSize of a used one", values(impl.FiredSize(withUses(wood, impl.MaxUses), 100)), []int64{216, 108, 63}, impl.OK)
}

// TestFiredSizeOfAll goes through all sizes and shrinkages: among them are sizes halfway between two integers, just below and just above.
func TestFiredSizeOfAll(t *testing.T) {
	parts := map[int64]int{}
	for size := int64(30); size <= 800; size++ {
		for shrink := int64(0); shrink <= 200; shrink++ {
			parts[size*(1000-shrink)%1000]++
			other := 830 - size
			want := []int64{wantedFired(size, shrink), wantedFired(other, shrink), wantedFired(size, shrink)}
			got, code := impl.FiredSize(impl.Mould{Length: size, Width: other, Height: size}, shrink)
			if code != impl.OK || !slices.Equal(got, want) {
				t.Errorf("FiredSize of %d and %d with the shrinkage %d: got %v %d, want %v 0", size, other, shrink, got, code, want)
			}
		}
	}
	for _, part := range []int64{0, 499, 500, 501} {
		expect(t, fmt.Sprintf("sizes with %d thousandths are there", part), values(parts[part] > 0), true)
	}
}

// TestFiredSizeIsNearest compares with fractions of any size: no integer is nearer, and of two that are as near it is the greater one.
func TestFiredSizeIsNearest(t *testing.T) {
	half := big.NewRat(1, 2)
	for size := int64(30); size <= 800; size += 7 {
		for shrink := int64(0); shrink <= 200; shrink++ {
			got, _ := impl.FiredSize(impl.Mould{Length: size, Width: size, Height: size}, shrink)
			exact := big.NewRat(size*(1000-shrink), 1000)
			off := new(big.Rat).Sub(big.NewRat(got[0], 1), exact)
			if off.Cmp(half) > 0 || new(big.Rat).Neg(off).Cmp(half) >= 0 {
				t.Errorf("FiredSize of %d with the shrinkage %d: got %d for %v", size, shrink, got[0], exact)
			}
		}
	}
}

func TestFiredSizeErrors(t *testing.T) {
	for _, m := range invalidMoulds() {
		for _, shrink := range append([]int64{0, 100, 200}, outside(0, 200)...) {
			expect(t, fmt.Sprintf("FiredSize(%v, %d)", m, shrink), values(impl.FiredSize(m, shrink)), []int64(nil), impl.ErrInvalid)
		}
	}
	for _, m := range validMoulds() {
		for _, shrink := range outside(0, 200) {
			expect(t, fmt.Sprintf("FiredSize(%v, %d)", m, shrink), values(impl.FiredSize(m, shrink)), []int64(nil), impl.ErrRange)
		}
		for _, shrink := range []int64{0, 200} {
			sizes, code := impl.FiredSize(m, shrink)
			expect(t, fmt.Sprintf("FiredSize(%v, %d)", m, shrink), values(len(sizes), code), 3, impl.OK)
		}
	}
}

func TestMouldFor(t *testing.T) {
	known := []struct {
		length, width, height, shrink int64
		want                          impl.Mould
	}{
		{215, 102, 65, 100, impl.Mould{Length: 239, Width: 113, Height: 72}},
		{215, 102, 65, 0, impl.Mould{Length: 215, Width: 102, Height: 65}},
		{500, 250, 150, 200, impl.Mould{Length: 625, Width: 312, Height: 187}},
		{500, 250, 150, 0, impl.Mould{Length: 500, Width: 250, Height: 150}},
		// 30 is already enough, and one thousandth more makes it too small
		{100, 50, 30, 0, impl.Mould{Length: 100, Width: 50, Height: 30}},
		{100, 50, 30, 16, impl.Mould{Length: 102, Width: 51, Height: 30}},
		{100, 50, 30, 17, impl.Mould{Length: 102, Width: 51, Height: 31}},
		{100, 50, 30, 200, impl.Mould{Length: 125, Width: 62, Height: 37}},
		// exactly halfway below the wanted size is enough: 499.5, 94.5, 149.5 and 49.5
		{500, 95, 30, 1, impl.Mould{Length: 500, Width: 95, Height: 30}},
		{500, 95, 50, 100, impl.Mould{Length: 555, Width: 105, Height: 55}},
		{401, 50, 41, 100, impl.Mould{Length: 445, Width: 55, Height: 45}},
		// just below halfway is not enough: 166.499; just above it is: 491.508
		{167, 50, 30, 3, impl.Mould{Length: 168, Width: 50, Height: 30}},
		{492, 50, 30, 1, impl.Mould{Length: 492, Width: 50, Height: 30}},
	}
	for _, k := range known {
		for _, joint := range []int64{0, 10, 20} {
			f := impl.Format{Length: k.length, Width: k.width, Height: k.height, Joint: joint}
			expect(t, fmt.Sprintf("MouldFor(%v, %d)", f, k.shrink), values(impl.MouldFor(f, k.shrink)), k.want, impl.OK)
		}
	}
}

// wantedMouldSize tries all sizes from the greatest one down to 30.
func wantedMouldSize(wanted, shrink int64) int64 {
	size := int64(800)
	for size > 30 && wantedFired(size-1, shrink) >= wanted {
		size--
	}
	return size
}

// formatsOfAllSizes are formats in which each length, width and height that is allowed is there.
func formatsOfAllSizes() []impl.Format {
	var list []impl.Format
	for n := int64(0); n <= 400; n++ {
		list = append(list, impl.Format{Length: 100 + n, Width: min(50+n, 250, 99+n), Height: 30 + n%121, Joint: n % 21})
	}
	return list
}

// TestPromise5LargeEnough: the mould for a format makes bricks that are large enough, and a mould smaller in any size does not.
func TestPromise5LargeEnough(t *testing.T) {
	for _, f := range append(formatsOfAllSizes(), validFormats()...) {
		for _, shrink := range []int64{0, 1, 2, 3, 16, 17, 50, 99, 100, 101, 125, 133, 167, 199, 200} {
			call := fmt.Sprintf("MouldFor(%v, %d)", f, shrink)
			m, code := impl.MouldFor(f, shrink)
			expect(t, call, values(code, impl.ValidMoulds([]impl.Mould{m}), m.Uses), impl.OK, true, 0)
			fired, _ := impl.FiredSize(m, shrink)
			// A format may be as low as 30, but a mould not lower: without a smaller mould there is nothing to compare with.
			smaller := impl.Mould{Length: m.Length - 1, Width: m.Width - 1, Height: max(m.Height-1, 30)}
			less, code := impl.FiredSize(smaller, shrink)
			expect(t, call+" has a smaller one", values(code), impl.OK)
			for k, size := range []int64{f.Length, f.Width, f.Height} {
				if fired[k] < size {
					t.Errorf("%s: the bricks of %v are too small: %v", call, m, fired)
				}
				if less[k] >= size && (k < 2 || m.Height > 30) {
					t.Errorf("%s: the bricks of %v are large enough, too: %v", call, smaller, less)
				}
			}
		}
	}
}

func TestMouldForAll(t *testing.T) {
	for _, f := range formatsOfAllSizes() {
		for shrink := int64(0); shrink <= 200; shrink += 3 {
			got, code := impl.MouldFor(f, shrink)
			want := impl.Mould{Length: wantedMouldSize(f.Length, shrink), Width: wantedMouldSize(f.Width, shrink), Height: wantedMouldSize(f.Height, shrink)}
			if got != want || code != impl.OK {
				t.Errorf("MouldFor(%v, %d): got %v %d, want %v 0", f, shrink, got, code, want)
			}
		}
	}
}

func TestMouldForErrors(t *testing.T) {
	for _, f := range invalidFormats() {
		for _, shrink := range append([]int64{0, 100, 200}, outside(0, 200)...) {
			expect(t, fmt.Sprintf("MouldFor(%v, %d)", f, shrink), values(impl.MouldFor(f, shrink)), impl.Mould{}, impl.ErrInvalid)
		}
	}
	for _, f := range validFormats() {
		for _, shrink := range outside(0, 200) {
			expect(t, fmt.Sprintf("MouldFor(%v, %d)", f, shrink), values(impl.MouldFor(f, shrink)), impl.Mould{}, impl.ErrRange)
		}
	}
}

func TestSizeFault(t *testing.T) {
	// The example brick: wood with the shrinkage 100 makes 216, 108 and 63, which is 1 too long, 6 too wide and 2 too low.
	for off := int64(0); off <= 100; off++ {
		want := "none"
		if off < 6 {
			want = "width"
		}
		if off < 1 {
			want = "length"
		}
		expect(t, fmt.Sprintf("SizeFault with off %d", off), values(impl.SizeFault(wood, uk, 100, off)), want, impl.OK)
	}
	known := []struct {
		m           impl.Mould
		shrink, off int64
		want        string
	}{
		{impl.Mould{Length: 215, Width: 102, Height: 65}, 0, 0, "none"}, {impl.Mould{Length: 239, Width: 113, Height: 72}, 100, 0, "none"}, {impl.Mould{Length: 238, Width: 113, Height: 72}, 100, 0, "length"},
		{impl.Mould{Length: 239, Width: 112, Height: 72}, 100, 0, "width"}, {impl.Mould{Length: 239, Width: 113, Height: 71}, 100, 0, "height"}, {impl.Mould{Length: 239, Width: 112, Height: 71}, 100, 0, "width"},
		// too great and too small by just off, and by one more
		{impl.Mould{Length: 225, Width: 92, Height: 75}, 0, 10, "none"}, {impl.Mould{Length: 205, Width: 112, Height: 55}, 0, 10, "none"},
		{impl.Mould{Length: 226, Width: 102, Height: 65}, 0, 10, "length"}, {impl.Mould{Length: 204, Width: 102, Height: 65}, 0, 10, "length"}, {impl.Mould{Length: 215, Width: 113, Height: 65}, 0, 10, "width"}, {impl.Mould{Length: 215, Width: 91, Height: 65}, 0, 10, "width"},
		{impl.Mould{Length: 215, Width: 102, Height: 76}, 0, 10, "height"}, {impl.Mould{Length: 215, Width: 102, Height: 54}, 0, 10, "height"},
		{impl.Mould{Length: 315, Width: 202, Height: 165}, 0, 100, "none"}, {impl.Mould{Length: 316, Width: 203, Height: 166}, 0, 100, "length"}, {impl.Mould{Length: 115, Width: 30, Height: 166}, 0, 100, "height"}, {impl.Mould{Length: 115, Width: 203, Height: 166}, 0, 100, "width"},
		// the first one is told, not the worst one; differences are not summed up, nor do they offset one another
		{impl.Mould{Length: 216, Width: 202, Height: 165}, 0, 0, "length"}, {impl.Mould{Length: 215, Width: 103, Height: 165}, 0, 0, "width"}, {impl.Mould{Length: 220, Width: 107, Height: 70}, 0, 5, "none"}, {impl.Mould{Length: 225, Width: 97, Height: 60}, 0, 9, "length"},
		{great, 200, 100, "length"}, {least, 0, 100, "length"},
	}
	for _, k := range known {
		expect(t, fmt.Sprintf("SizeFault(%v, %d, %d)", k.m, k.shrink, k.off), values(impl.SizeFault(k.m, uk, k.shrink, k.off)), k.want, impl.OK)
	}
}

// mouldsAbout are moulds that are a little greater or smaller than the right one in each size.
func mouldsAbout(f impl.Format, shrink int64) []impl.Mould {
	m := impl.Mould{Length: wantedMouldSize(f.Length, shrink), Width: wantedMouldSize(f.Width, shrink), Height: wantedMouldSize(f.Height, shrink), Uses: 3}
	var list []impl.Mould
	for _, a := range []int64{-9, -1, 0, 1, 12} {
		for _, b := range []int64{-3, 0, 2} {
			for _, c := range []int64{-2, 0, 1, 5} {
				list = append(list, impl.Mould{Length: m.Length + a, Width: m.Width + b, Height: max(m.Height+c, 30), Uses: m.Uses + a*a})
			}
		}
	}
	return list
}

// wantedOff returns the differences of the three fired sizes from those of a format.
func wantedOff(m impl.Mould, f impl.Format, shrink int64) [3]int64 {
	away := func(size, wanted int64) int64 {
		if fired := wantedFired(size, shrink); fired >= wanted {
			return fired - wanted
		} else {
			return wanted - fired
		}
	}
	return [3]int64{away(m.Length, f.Length), away(m.Width, f.Width), away(m.Height, f.Height)}
}

func TestSizeFaultOfMany(t *testing.T) {
	for _, f := range validFormats()[:60] {
		for _, shrink := range []int64{0, 1, 50, 100, 200} {
			for _, m := range mouldsAbout(f, shrink) {
				differences := wantedOff(m, f, shrink)
				for _, off := range []int64{0, 1, 2, 3, 8, 9, 100} {
					want := "none"
					for k := 2; k >= 0; k-- {
						if differences[k] > off {
							want = []string{"length", "width", "height"}[k]
						}
					}
					if got, code := impl.SizeFault(m, f, shrink, off); got != want || code != impl.OK {
						t.Errorf("SizeFault(%v, %v, %d, %d): got %q %d, want %q 0", m, f, shrink, off, got, code, want)
					}
				}
			}
		}
	}
}

func TestSizeFaultErrors(t *testing.T) {
	for _, m := range invalidMoulds() {
		for _, n := range []int64{0, -1, 201} {
			expect(t, fmt.Sprintf("SizeFault of %v", m), values(impl.SizeFault(m, uk, n, n)), "", impl.ErrInvalid)
			expect(t, fmt.Sprintf("SizeFault of %v and no format", m), values(impl.SizeFault(m, impl.Format{}, n, n)), "", impl.ErrInvalid)
		}
	}
	for _, f := range invalidFormats() {
		for _, n := range []int64{0, -1, 201} {
			expect(t, fmt.Sprintf("SizeFault for %v", f), values(impl.SizeFault(wood, f, n, 0)), "", impl.ErrInvalid)
			expect(t, fmt.Sprintf("SizeFault for %v", f), values(impl.SizeFault(wood, f, 0, n)), "", impl.ErrInvalid)
		}
	}
	for _, shrink := range outside(0, 200) {
		for _, off := range []int64{-1, 0, 100, 101} {
			expect(t, fmt.Sprintf("SizeFault with %d, %d", shrink, off), values(impl.SizeFault(wood, uk, shrink, off)), "", impl.ErrRange)
		}
	}
	for _, off := range outside(0, 100) {
		for _, shrink := range []int64{-1, 0, 200, 201} {
			expect(t, fmt.Sprintf("SizeFault with %d, %d", shrink, off), values(impl.SizeFault(wood, uk, shrink, off)), "", impl.ErrRange)
		}
	}
	for _, m := range validMoulds() {
		for _, n := range []int64{0, 100} {
			_, code := impl.SizeFault(m, uk, 2*n, n)
			expect(t, fmt.Sprintf("SizeFault of %v", m), values(code), impl.OK)
		}
	}
}

func TestBestMould(t *testing.T) {
	right := impl.Mould{Length: 215, Width: 102, Height: 65, Uses: 50}
	longer, shorter := impl.Mould{Length: 217, Width: 102, Height: 65, Uses: 50}, impl.Mould{Length: 213, Width: 102, Height: 65, Uses: 50}
	spread := impl.Mould{Length: 216, Width: 103, Height: 66, Uses: 0}
	even := impl.Mould{Length: 216, Width: 101, Height: 65, Uses: 50}
	known := []struct {
		list   []impl.Mould
		shrink int64
		want   int64
	}{
		{[]impl.Mould{great}, 0, 0}, {[]impl.Mould{least}, 200, 0}, {[]impl.Mould{great, least}, 0, 1}, {[]impl.Mould{wood, right}, 0, 1}, {[]impl.Mould{right, wood}, 0, 0}, {[]impl.Mould{right, wood}, 100, 1},
		// the nearest one, however often it has been used, and by the sum of the differences: neither by the greatest one, nor with their signs
		{[]impl.Mould{withUses(longer, 0), withUses(right, impl.MaxUses)}, 0, 1}, {[]impl.Mould{spread, longer}, 0, 1}, {[]impl.Mould{longer, spread}, 0, 0}, {[]impl.Mould{withUses(even, 0), right}, 0, 1},
		// equally near with different Uses: that with the least ones, too great or too small
		{[]impl.Mould{longer, withUses(shorter, 49)}, 0, 1}, {[]impl.Mould{withUses(longer, 49), shorter}, 0, 0}, {[]impl.Mould{longer, withUses(shorter, 51)}, 0, 0}, {[]impl.Mould{longer, withUses(shorter, 49), withUses(even, 48), spread}, 0, 2},
		{[]impl.Mould{withUses(right, 9), withUses(right, 3), withUses(right, 0), withUses(right, 1)}, 0, 2}, {[]impl.Mould{withUses(right, impl.MaxUses), withUses(right, 99999)}, 0, 1},
		// equally near with the same Uses: the first one
		{[]impl.Mould{longer, shorter}, 0, 0}, {[]impl.Mould{shorter, longer}, 0, 0}, {[]impl.Mould{wood, shorter, longer, even}, 0, 1}, {[]impl.Mould{wood, even, shorter, longer}, 0, 1}, {[]impl.Mould{right, right, right}, 0, 0},
		{slices.Repeat([]impl.Mould{great}, 20), 100, 0}, {append(slices.Repeat([]impl.Mould{great}, 19), wood), 100, 19}, {append([]impl.Mould{wood}, slices.Repeat([]impl.Mould{great}, 19)...), 100, 0},
		// one millimetre more makes the brick 103 wide, or leaves it at 102: the sizes of the bricks are compared, not those of the moulds
		{[]impl.Mould{{Length: 239, Width: 114, Height: 72, Uses: 4}, {Length: 239, Width: 113, Height: 72, Uses: 5}}, 100, 1},
		{[]impl.Mould{{Length: 269, Width: 127, Height: 81, Uses: 5}, {Length: 269, Width: 128, Height: 81, Uses: 4}}, 200, 1},
		{[]impl.Mould{{Length: 269, Width: 128, Height: 81, Uses: 4}, {Length: 269, Width: 127, Height: 81, Uses: 4}}, 200, 0},
	}
	for _, k := range known {
		list, unchanged := guarded(k.list, wood)
		call := fmt.Sprintf("BestMould(%v, %d)", k.list, k.shrink)
		expect(t, call, values(impl.BestMould(list, uk, k.shrink)), k.want, impl.OK)
		unchanged(t, call)
	}
}

func TestBestMouldOfMany(t *testing.T) {
	for _, f := range validFormats()[:40] {
		for _, shrink := range []int64{0, 1, 50, 100, 200} {
			all := mouldsAbout(f, shrink)
			for from := 0; from+impl.MaxMoulds <= len(all); from += 7 {
				list := all[from : from+1+from%impl.MaxMoulds]
				want := -1
				for k := len(list) - 1; k >= 0; k-- {
					if want < 0 || slices.Compare(rank(list[k], f, shrink), rank(list[want], f, shrink)) <= 0 {
						want = k
					}
				}
				expect(t, fmt.Sprintf("BestMould(%v, %v, %d)", list, f, shrink), values(impl.BestMould(list, f, shrink)), want, impl.OK)
			}
		}
	}
}

// rank returns the numbers by which moulds are compared.
func rank(m impl.Mould, f impl.Format, shrink int64) []int64 {
	off := wantedOff(m, f, shrink)
	return []int64{off[0] + off[1] + off[2], m.Uses}
}

func TestBestMouldErrors(t *testing.T) {
	for _, list := range invalidMouldLists() {
		for _, shrink := range []int64{0, -1, 201} {
			expect(t, fmt.Sprintf("BestMould(%v, %d)", list, shrink), values(impl.BestMould(list, uk, shrink)), 0, impl.ErrInvalid)
			expect(t, fmt.Sprintf("BestMould(%v, %d) for no format", list, shrink), values(impl.BestMould(list, impl.Format{}, shrink)), 0, impl.ErrInvalid)
		}
	}
	for _, f := range invalidFormats() {
		for _, list := range [][]impl.Mould{nil, {}, {wood}, {wood, great}} {
			for _, shrink := range []int64{0, -1, 201} {
				expect(t, fmt.Sprintf("BestMould(%v, %v, %d)", list, f, shrink), values(impl.BestMould(list, f, shrink)), 0, impl.ErrInvalid)
			}
		}
	}
	for _, shrink := range outside(0, 200) {
		for _, list := range [][]impl.Mould{nil, {}, {wood}, {great, wood}} {
			expect(t, fmt.Sprintf("BestMould(%v, %d)", list, shrink), values(impl.BestMould(list, uk, shrink)), 0, impl.ErrRange)
		}
	}
	for _, shrink := range []int64{0, 100, 200} {
		expect(t, "BestMould of nil", values(impl.BestMould(nil, uk, shrink)), 0, impl.ErrNotFound)
		expect(t, "BestMould of none", values(impl.BestMould([]impl.Mould{}, uk, shrink)), 0, impl.ErrNotFound)
	}
}

func TestUseMould(t *testing.T) {
	for _, n := range []int{1, 2, 3, 19, 20} {
		for k := range n {
			for _, times := range []int64{1, 2, 5, 99984, 99985} {
				list, unchanged := guarded(slices.Repeat([]impl.Mould{wood}, n), great)
				want := slices.Repeat([]impl.Mould{wood}, n)
				want[k].Uses = 15 + times
				call := fmt.Sprintf("UseMould of %d, %d, %d", n, k, times)
				got, code := impl.UseMould(list, int64(k), times)
				expect(t, call, values(got, code), want, impl.OK)
				expect(t, call+" is valid", values(impl.ValidMoulds(got)), true)
				unchanged(t, call)
				spoil(got, least)
				unchanged(t, call)
			}
		}
	}
	list := []impl.Mould{least, wood, great}
	expect(t, "UseMould of the first one", values(impl.UseMould(list, 0, impl.MaxUses)), []impl.Mould{withUses(least, impl.MaxUses), wood, great}, impl.OK)
	expect(t, "UseMould of the second one", values(impl.UseMould(list, 1, 1)), []impl.Mould{least, withUses(wood, 16), great}, impl.OK)
}

// TestUseMouldUpToMaxUses uses a mould just up to MaxUses, and once more.
func TestUseMouldUpToMaxUses(t *testing.T) {
	for _, uses := range []int64{0, 1, 2, 15, 50000, 99998, 99999} {
		list, unchanged := guarded([]impl.Mould{great, withUses(wood, uses)}, wood)
		call := fmt.Sprintf("UseMould with %d Uses", uses)
		full, code := impl.UseMould(list, 1, 100000-uses)
		expect(t, call, values(full, code), []impl.Mould{great, withUses(wood, 100000)}, impl.OK)
		for _, times := range []int64{1, 2, 100000} {
			expect(t, call+" and once more", values(impl.UseMould(full, 1, times)), []impl.Mould(nil), impl.ErrFull)
		}
		if uses > 0 {
			expect(t, call+" at once", values(impl.UseMould(list, 1, 100001-uses)), []impl.Mould(nil), impl.ErrFull)
			expect(t, call+" by MaxUses", values(impl.UseMould(list, 1, 100000)), []impl.Mould(nil), impl.ErrFull)
		}
		expect(t, call+" of the full one", values(impl.UseMould(list, 0, 1)), []impl.Mould(nil), impl.ErrFull)
		unchanged(t, call)
	}
}

func TestUseMouldErrors(t *testing.T) {
	for _, list := range invalidMouldLists() {
		for _, k := range []int64{-1, 0, 1000} {
			for _, times := range []int64{0, 1, 100001} {
				expect(t, fmt.Sprintf("UseMould(%v, %d, %d)", list, k, times), values(impl.UseMould(list, k, times)), []impl.Mould(nil), impl.ErrInvalid)
			}
		}
	}
	for _, n := range []int{0, 1, 2, 20} {
		// all of them are full: ErrRange goes before ErrFull
		list := slices.Repeat([]impl.Mould{great}, n)
		last := int64(n - 1)
		for _, k := range append([]int64{int64(n) + 1}, outside(0, last)...) {
			for _, times := range append([]int64{1, 2, impl.MaxUses}, outside(1, impl.MaxUses)...) {
				expect(t, fmt.Sprintf("UseMould of %d, %d, %d", n, k, times), values(impl.UseMould(list, k, times)), []impl.Mould(nil), impl.ErrRange)
			}
		}
		for k := range int64(n) {
			for _, times := range outside(1, impl.MaxUses) {
				expect(t, fmt.Sprintf("UseMould of %d, %d, %d", n, k, times), values(impl.UseMould(list, k, times)), []impl.Mould(nil), impl.ErrRange)
			}
			expect(t, fmt.Sprintf("UseMould of %d, %d", n, k), values(impl.UseMould(list, k, 1)), []impl.Mould(nil), impl.ErrFull)
		}
	}
}

func TestWornMoulds(t *testing.T) {
	known := []struct {
		uses []int64
		most int64
		want []int64
	}{
		{[]int64{0}, 0, nil}, {[]int64{1}, 0, []int64{0}}, {[]int64{1}, 1, nil}, {[]int64{15, 9, 3}, 8, []int64{0, 1}}, {[]int64{15, 9, 3}, 9, []int64{0}}, {[]int64{15, 9, 3}, 2, []int64{0, 1, 2}}, {[]int64{15, 9, 3}, 3, []int64{0, 1}}, {[]int64{15, 9, 3}, 15, nil}, {[]int64{15, 9, 3}, 14, []int64{0}},
		{[]int64{3, 9, 15, 9}, 8, []int64{1, 2, 3}}, {[]int64{0, 1, 0, 1, 0}, 0, []int64{1, 3}}, {[]int64{100000, 99999, 100000}, 99999, []int64{0, 2}}, {[]int64{100000, 99999, 100000}, 100000, nil}, {[]int64{100000, 99999, 99998}, 99998, []int64{0, 1}},
		{nil, 0, nil}, {nil, 100000, nil},
	}
	for _, k := range known {
		list, unchanged := guarded(usedMoulds(k.uses...), great)
		call := fmt.Sprintf("WornMoulds of %v, %d", k.uses, k.most)
		got, code := impl.WornMoulds(list, k.most)
		if code != impl.OK || !slices.Equal(got, k.want) {
			t.Errorf("%s: got %v %d, want %v 0", call, got, code, k.want)
		}
		unchanged(t, call)
	}
	for most := int64(0); most <= 25; most++ {
		var uses, want []int64
		for k := range int64(20) {
			uses = append(uses, k*7%20)
			if k*7%20 > most {
				want = append(want, k)
			}
		}
		got, code := impl.WornMoulds(usedMoulds(uses...), most)
		if code != impl.OK || !slices.Equal(got, want) {
			t.Errorf("WornMoulds of %v, %d: got %v %d, want %v 0", uses, most, got, code, want)
		}
	}
}

func TestWornMouldsErrors(t *testing.T) {
	for _, list := range invalidMouldLists() {
		for _, most := range []int64{-1, 0, 100000, 100001} {
			expect(t, fmt.Sprintf("WornMoulds(%v, %d)", list, most), values(impl.WornMoulds(list, most)), []int64(nil), impl.ErrInvalid)
		}
	}
	for _, most := range outside(0, impl.MaxUses) {
		for _, list := range [][]impl.Mould{nil, {}, {wood}, {great, wood, least}} {
			expect(t, fmt.Sprintf("WornMoulds(%v, %d)", list, most), values(impl.WornMoulds(list, most)), []int64(nil), impl.ErrRange)
		}
	}
}

// wantedShares uses one mould after the other, as the chapter tells it.
func wantedShares(uses []int64, times int64) []int64 {
	now, shares := slices.Clone(uses), make([]int64, len(uses))
	for range times {
		k := slices.Index(now, slices.Min(now))
		now[k]++
		shares[k]++
	}
	return shares
}

func TestShareUses(t *testing.T) {
	known := []struct {
		uses  []int64
		times int64
		want  []int64
	}{
		{[]int64{15, 9, 3}, 9, []int64{0, 2, 7}}, {[]int64{15, 9, 3}, 6, []int64{0, 0, 6}}, {[]int64{15, 9, 3}, 7, []int64{0, 1, 6}}, {[]int64{15, 9, 3}, 8, []int64{0, 1, 7}}, {[]int64{15, 9, 3}, 19, []int64{1, 6, 12}}, {[]int64{15, 9, 3}, 20, []int64{1, 7, 12}}, {[]int64{15, 9, 3}, 18, []int64{0, 6, 12}},
		// with the same Uses, and without
		{[]int64{4, 4, 4}, 1, []int64{1, 0, 0}}, {[]int64{4, 4, 4}, 2, []int64{1, 1, 0}}, {[]int64{4, 4, 4}, 3, []int64{1, 1, 1}}, {[]int64{0, 0}, 5, []int64{3, 2}}, {[]int64{0, 0, 0}, 2000, []int64{667, 667, 666}}, {[]int64{1, 0}, 1, []int64{0, 1}}, {[]int64{1, 0}, 2, []int64{1, 1}}, {[]int64{0, 1}, 2, []int64{2, 0}},
		// one mould
		{[]int64{0}, 0, []int64{0}}, {[]int64{0}, 1, []int64{1}}, {[]int64{7}, 2000, []int64{2000}}, {[]int64{100000}, 2000, []int64{2000}},
		// no times, and Uses that go beyond MaxUses
		{[]int64{15, 9, 3}, 0, []int64{0, 0, 0}}, {[]int64{100000, 99999}, 4, []int64{2, 2}}, {[]int64{100000, 100000, 100000}, 2000, []int64{667, 667, 666}}, {[]int64{100000, 0}, 2000, []int64{0, 2000}},
	}
	for _, k := range known {
		expect(t, fmt.Sprintf("ShareUses of %v, %d", k.uses, k.times), values(impl.ShareUses(usedMoulds(k.uses...), k.times)), k.want, impl.OK)
	}
	// The sizes of the moulds are no matter.
	expect(t, "ShareUses of other sizes", values(impl.ShareUses([]impl.Mould{withUses(great, 2), withUses(least, 1), withUses(wood, 2)}, 4)), []int64{1, 2, 1}, impl.OK)
}

func TestShareUsesOfMany(t *testing.T) {
	for n := int64(1); n <= impl.MaxMoulds; n++ {
		for _, spread := range []int64{1, 2, 5, 300, 100001} {
			var uses []int64
			for k := range n {
				uses = append(uses, (k*k*7919+k*31+5)%spread)
			}
			list, unchanged := guarded(usedMoulds(uses...), great)
			for _, times := range []int64{0, 1, 2, 3, n - 1, n, n + 1, 37, 250, 1999, 2000} {
				call := fmt.Sprintf("ShareUses of %v, %d", uses, times)
				got, code := impl.ShareUses(list, times)
				expect(t, call, values(got, code), wantedShares(uses, times), impl.OK)
				unchanged(t, call)
				spoil(got, 77)
				unchanged(t, call)
			}
		}
	}
}

func TestShareUsesErrors(t *testing.T) {
	for _, list := range invalidMouldLists() {
		for _, times := range []int64{-1, 0, 2000, 2001} {
			expect(t, fmt.Sprintf("ShareUses(%v, %d)", list, times), values(impl.ShareUses(list, times)), []int64(nil), impl.ErrInvalid)
		}
	}
	for _, times := range outside(0, 2000) {
		for _, list := range [][]impl.Mould{nil, {}, {wood}, {great, wood, least}} {
			expect(t, fmt.Sprintf("ShareUses(%v, %d)", list, times), values(impl.ShareUses(list, times)), []int64(nil), impl.ErrRange)
		}
	}
	for _, times := range []int64{0, 1, 2000} {
		expect(t, fmt.Sprintf("ShareUses of nil, %d", times), values(impl.ShareUses(nil, times)), []int64(nil), impl.ErrNotFound)
		expect(t, fmt.Sprintf("ShareUses of none, %d", times), values(impl.ShareUses([]impl.Mould{}, times)), []int64(nil), impl.ErrNotFound)
	}
}

func TestShrinkBy(t *testing.T) {
	known := []struct{ mould, brick, shrink, code int64 }{
		// several are right: 98 to 102, 0 to 16, 0 and 1, 197 to 200
		{240, 216, 98, impl.OK}, {30, 30, 0, impl.OK}, {500, 500, 0, impl.OK}, {125, 100, 197, impl.OK}, {38, 31, 172, impl.OK},
		// only 0 is right, only 200, and only one beside them
		{800, 800, 0, impl.OK}, {501, 501, 0, impl.OK}, {600, 600, 0, impl.OK}, {800, 640, 200, impl.OK}, {750, 600, 200, impl.OK}, {799, 639, 200, impl.OK},
		{800, 799, 1, impl.OK}, {800, 641, 199, impl.OK}, {750, 601, 199, impl.OK},
		// none is right: the brick is greater than the mould, or too small
		{240, 241, 0, impl.ErrNotFound}, {30, 31, 0, impl.ErrNotFound}, {30, 800, 0, impl.ErrNotFound}, {799, 800, 0, impl.ErrNotFound}, {800, 639, 0, impl.ErrNotFound}, {800, 30, 0, impl.ErrNotFound}, {240, 191, 0, impl.ErrNotFound}, {240, 192, 198, impl.OK},
	}
	for _, k := range known {
		expect(t, fmt.Sprintf("ShrinkBy(%d, %d)", k.mould, k.brick), values(impl.ShrinkBy(k.mould, k.brick)), k.shrink, k.code)
	}
}

// TestShrinkByOfAll goes through all moulds and bricks.
func TestShrinkByOfAll(t *testing.T) {
	for mould := int64(30); mould <= 800; mould++ {
		wanted := map[int64]int64{}
		for shrink := int64(200); shrink >= 0; shrink-- {
			wanted[wantedFired(mould, shrink)] = shrink
		}
		for brick := int64(30); brick <= 800; brick++ {
			want, ok := wanted[brick]
			got, code := impl.ShrinkBy(mould, brick)
			if ok && (got != want || code != impl.OK) || !ok && (got != 0 || code != impl.ErrNotFound) {
				t.Errorf("ShrinkBy(%d, %d): got %d %d, want %d %v", mould, brick, got, code, want, ok)
			}
		}
	}
}

func TestShrinkByErrors(t *testing.T) {
	for _, wrong := range append([]int64{-30, 0, 1}, outside(30, 800)...) {
		for _, other := range append([]int64{30, 31, 240, 799, 800}, outside(30, 800)...) {
			expect(t, fmt.Sprintf("ShrinkBy(%d, %d)", wrong, other), values(impl.ShrinkBy(wrong, other)), 0, impl.ErrRange)
			expect(t, fmt.Sprintf("ShrinkBy(%d, %d)", other, wrong), values(impl.ShrinkBy(other, wrong)), 0, impl.ErrRange)
		}
	}
	for _, size := range []int64{30, 800} {
		expect(t, fmt.Sprintf("ShrinkBy(%d, %d)", size, size), values(impl.ShrinkBy(size, size)), 0, impl.OK)
	}
}

// mouldText puts the text of a mould together, whether it is valid or not.
func mouldText(m impl.Mould) string {
	return fmt.Sprintf("%dx%dx%d used %d", m.Length, m.Width, m.Height, m.Uses)
}

// TestMouldText: moulds are read back from their texts, and what is not valid has none.
func TestMouldText(t *testing.T) {
	known := map[string]impl.Mould{
		"240x120x70 used 15":          wood,
		"30x30x30 used 0":             least,
		"800x800x800 used 100000":     great,
		"31x799x100 used 99999":       {Length: 31, Width: 799, Height: 100, Uses: 99999},
		"120x240x600 used 1":          {Length: 120, Width: 240, Height: 600, Uses: 1},
		mouldText(withUses(wood, 10)): withUses(wood, 10),
	}
	for s, m := range known {
		expect(t, fmt.Sprintf("MouldText(%v)", m), values(impl.MouldText(m)), s)
		expect(t, fmt.Sprintf("ReadMould(%q)", s), values(impl.ReadMould(s)), m, true)
	}
	for _, m := range validMoulds() {
		expect(t, fmt.Sprintf("MouldText(%v)", m), values(impl.MouldText(m)), mouldText(m))
		expect(t, fmt.Sprintf("ReadMould(%q)", mouldText(m)), values(impl.ReadMould(mouldText(m))), m, true)
	}
	for _, m := range invalidMoulds() {
		expect(t, fmt.Sprintf("MouldText(%v)", m), values(impl.MouldText(m)), "")
		expect(t, fmt.Sprintf("ReadMould(%q)", mouldText(m)), values(impl.ReadMould(mouldText(m))), impl.Mould{}, false)
	}
}

func TestReadMouldOfOthers(t *testing.T) {
	others := []string{
		"", " ", "x", "xx", "used", " used ", "xx used ", "x used x", "wall-3", "240", "240x120x70", "15", "used 15", " used 15",
		// sizes, words and numbers that are missing, too many or in a wrong order
		"240x120 used 15", "240 used 15", "x120x70 used 15", "240xx70 used 15", "240x120x used 15", "240x120x70x used 15", "x240x120x70 used 15", "240x120x70x80 used 15", "240x120x70x15 used 15", "240x120x70 used", "240x120x70 used ", "240x120x70 15", "240x120x70x15",
		"240x120x70 used 15 15", "240x120x70 used 15 used 15", "240x120x70 used used 15", "240x120x70 15 used", "15 used 240x120x70", "used 15 240x120x70", "used 240x120x70 15", "240x120x70 used 15x15", "240x120x70used15", "240x120x70 used15", "240x120x70used 15",
		"240 x 120 x 70 used 15", "240x120x70 used 15 240x120x70 used 15",
		// blanks
		" 240x120x70 used 15", "240x120x70 used 15 ", "240x120x70  used 15", "240x120x70 used  15", "240x120x70  used  15", "240 x120x70 used 15", "240x 120x70 used 15", "240x120x7 0 used 15", "240x120x70 used 1 5", "240x120x70 us ed 15",
		"240x120x70\tused 15", "240x120x70 used\t15", "240x120x70 used\n15", "240x120x70 used 15\n", "\n240x120x70 used 15", "240x120x70 used 15\x00", "240x120x70\u00a0used 15", "240x120x70 used 15\r",
		// another word
		"240x120x70 use 15", "240x120x70 uses 15", "240x120x70 Used 15", "240x120x70 USED 15", "240x120x70 unused 15", "240x120x70 shrink 15", "240x120x70 + 15", "240x120x70+15", "240x120x70 x 15", "240x120x70 15 15", "240x120x70 u 15", "240x120x70 usedused 15",
		// numbers that are not in decimal
		"0240x120x70 used 15", "240x0120x70 used 15", "240x120x070 used 15", "240x120x70 used 015", "240x120x70 used 00", "240x120x70 used -0", "240x120x70 used +15", "240x120x70 used -15", "240x120x70 used -1", "+240x120x70 used 15", "240x+120x70 used 15", "240x120x+70 used 15",
		"-240x120x70 used 15", "240x-120x70 used 15", "240x120x-70 used 15", "240.0x120x70 used 15", "2_40x120x70 used 15", "0xf0x120x70 used 15", "240x120x70 used 1e1", "240x120x70 used a", "240x120x70 used 15a", "24Ox120x70 used 15", "٢٤٠x120x70 used 15", "240x120x70 used １５", "240x120x70 used 15\xff",
		// other separators
		"240X120x70 used 15", "240X120X70 used 15", "240×120×70 used 15", "240*120*70 used 15", "240,120,70 used 15", "240 120 70 used 15", "240x120 70 used 15", "240x120+70 used 15",
		// moulds that are not valid, also after numbers that would wrap around
		"29x120x70 used 15", "240x29x70 used 15", "240x120x29 used 15", "801x120x70 used 15", "240x801x70 used 15", "240x120x801 used 15", "240x120x70 used 100001", "0x0x0 used 0", "0x120x70 used 15", "240x120x0 used 15",
		"18446744073709551856x120x70 used 15", "240x120x70 used 18446744073709551631", "4294967536x120x70 used 15", "240x120x70 used 4294967311", "240x120x70 used 9223372036854775807", "240x120x1000000000000000000 used 15", "999999999999999999x120x70 used 15",
	}
	for _, s := range others {
		expect(t, fmt.Sprintf("ReadMould(%q)", s), values(impl.ReadMould(s)), impl.Mould{}, false)
	}
	for _, s := range []string{strings.Repeat("x", 5000), strings.Repeat(" ", 5000), strings.Repeat(" used ", 5000), strings.Repeat("240x", 5000) + "70 used 15", "240x120x70 used " + strings.Repeat("1", 5000), strings.Repeat("0", 5000) + "240x120x70 used 15"} {
		expect(t, "ReadMould of a long text", values(impl.ReadMould(s)), impl.Mould{}, false)
	}
}

// wantedMould returns the mould of a text by a pattern of such texts.
func wantedMould(s string) (impl.Mould, bool) {
	parts := regexp.MustCompile(`\A([1-9][0-9]{1,2})x([1-9][0-9]{1,2})x([1-9][0-9]{1,2}) used (0|[1-9][0-9]{0,5})\z`).FindStringSubmatch(s)
	if parts == nil {
		return impl.Mould{}, false
	}
	var n [4]int64
	for k := range n {
		n[k], _ = strconv.ParseInt(parts[k+1], 10, 64)
	}
	if min(n[0], n[1], n[2]) < 30 || max(n[0], n[1], n[2]) > 800 || n[3] > 100000 {
		return impl.Mould{}, false
	}
	return impl.Mould{Length: n[0], Width: n[1], Height: n[2], Uses: n[3]}, true
}

// TestReadMouldOfChangedTexts changes, adds and leaves out each byte of a text.
func TestReadMouldOfChangedTexts(t *testing.T) {
	check := func(s string) {
		t.Helper()
		m, ok := wantedMould(s)
		expect(t, fmt.Sprintf("ReadMould(%q)", s), values(impl.ReadMould(s)), m, ok)
	}
	for _, text := range []string{"240x120x70 used 15", "30x30x30 used 0", "800x800x800 used 100000"} {
		for _, s := range changedTexts(text) {
			check(s)
		}
	}
}

// TestReadMouldOfEachNumber moves one number at a time over its limits.
func TestReadMouldOfEachNumber(t *testing.T) {
	check := func(m impl.Mould, valid bool) {
		t.Helper()
		want := impl.Mould{}
		if valid {
			want = m
		}
		expect(t, fmt.Sprintf("ReadMould(%q)", mouldText(m)), values(impl.ReadMould(mouldText(m))), want, valid)
	}
	for n := int64(-50); n <= 900; n++ {
		check(impl.Mould{Length: n, Width: 120, Height: 70, Uses: 15}, 30 <= n && n <= 800)
		check(impl.Mould{Length: 240, Width: n, Height: 70, Uses: 15}, 30 <= n && n <= 800)
		check(impl.Mould{Length: 240, Width: 120, Height: n, Uses: 15}, 30 <= n && n <= 800)
		check(withUses(wood, n), 0 <= n)
		check(withUses(wood, n+100000), n <= 0)
	}
}

// TestPromise1Moulds: every function of chapter 5 returns for all arguments, changes none, and keeps none of its results.
func TestPromise1Moulds(t *testing.T) {
	numbers := append([]int64{2, 29, 30, 100, 200, 201, 800, 801, 2000, 2001, 100000, 100001}, extremes...)
	for _, moulds := range append(validMouldLists(), invalidMouldLists()[:80]...) {
		list, unchanged := guarded(moulds, wood)
		for _, n := range numbers {
			worn, code := impl.WornMoulds(list, n)
			before := slices.Clone(worn)
			spoil(worn, 77)
			again, codeAgain := impl.WornMoulds(list, n)
			expect(t, "WornMoulds", values(slices.Equal(again, before), codeAgain), true, code)
			shares, code := impl.ShareUses(list, n)
			before = slices.Clone(shares)
			spoil(shares, 77)
			expect(t, "ShareUses", values(impl.ShareUses(list, n)), before, code)
			for _, k := range []int64{-1, 0, 1, 19, 20, n} {
				used, code := impl.UseMould(list, k, n)
				kept := slices.Clone(used)
				spoil(used, least)
				expect(t, "UseMould", values(impl.UseMould(list, k, n)), kept, code)
			}
			expect(t, "BestMould", values(impl.BestMould(list, uk, n)), values(impl.BestMould(list, uk, n))...)
		}
		expect(t, "ValidMoulds", values(impl.ValidMoulds(list)), impl.ValidMoulds(list))
		expect(t, "SameMoulds", values(impl.SameMoulds(list, moulds), impl.SameMoulds(moulds, list)), true, true)
		unchanged(t, "a function of moulds")
	}
	for _, m := range append(validMoulds(), invalidMoulds()...) {
		for _, n := range numbers {
			fired, code := impl.FiredSize(m, n)
			before := slices.Clone(fired)
			spoil(fired, 77)
			expect(t, "FiredSize", values(impl.FiredSize(m, n)), before, code)
			expect(t, "SizeFault", values(impl.SizeFault(m, uk, n, n)), values(impl.SizeFault(m, uk, n, n))...)
			expect(t, "SizeFault", values(impl.SizeFault(m, uk, 0, n)), values(impl.SizeFault(m, uk, 0, n))...)
		}
		s := impl.MouldText(m)
		expect(t, "MouldText", values(impl.MouldText(m)), s)
		expect(t, "ReadMould", values(impl.ReadMould(s)), values(impl.ReadMould(s))...)
	}
	for _, n := range numbers {
		for _, f := range append(validFormats()[:20], invalidFormats()...) {
			expect(t, "MouldFor", values(impl.MouldFor(f, n)), values(impl.MouldFor(f, n))...)
		}
		for _, other := range numbers {
			expect(t, "ShrinkBy", values(impl.ShrinkBy(n, other)), values(impl.ShrinkBy(n, other))...)
		}
	}
}
