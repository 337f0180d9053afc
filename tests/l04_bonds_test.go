package tests

import (
	"fmt"
	"regexp"
	"slices"
	"strings"
	"testing"

	"loop.example/g01042/impl"
)

// libraryTexts are the texts of the bonds of the library, in their order.
var libraryTexts = []string{"stretcher S B+S", "header H C+H", "english S HC+H", "flemish SH HC+SH", "garden S B+S S HC+H"}

// libraryBonds are the bonds of the library, in their order.
var libraryBonds = []impl.Bond{
	{Name: "stretcher", Courses: []impl.Course{{Cycle: "S"}, {Lead: "B", Cycle: "S"}}},
	{Name: "header", Courses: []impl.Course{{Cycle: "H"}, {Lead: "C", Cycle: "H"}}},
	{Name: "english", Courses: []impl.Course{{Cycle: "S"}, {Lead: "HC", Cycle: "H"}}},
	{Name: "flemish", Courses: []impl.Course{{Cycle: "SH"}, {Lead: "HC", Cycle: "SH"}}},
	{Name: "garden", Courses: []impl.Course{{Cycle: "S"}, {Lead: "B", Cycle: "S"}, {Cycle: "S"}, {Lead: "HC", Cycle: "H"}}},
}

// plain is a course that is valid, and long one with MaxLead and MaxCycle letters.
var (
	plain = impl.Course{Cycle: "S"}
	long  = impl.Course{Lead: "SHTBCB", Cycle: "SSHSHHSH"}
)

// bondOf returns a bond with some courses.
func bondOf(courses ...impl.Course) impl.Bond { return impl.Bond{Name: "own", Courses: courses} }

// validBonds are the library, and bonds at the limits of each field.
func validBonds() []impl.Bond {
	list := slices.Clone(libraryBonds)
	for _, name := range []string{"a", "z9", "a-", "abcdefgh-012", "stretcher"} {
		list = append(list, impl.Bond{Name: name, Courses: []impl.Course{plain}})
	}
	for _, lead := range []string{"", "S", "H", "T", "B", "C", "CB", "TCT", "SHTB", "CBTHS", "CCCCCC", "SSSSSS", "SHTBCB"} {
		for _, cycle := range []string{"S", "H", "SH", "HS", "HHS", "SHHHH", "SSSSSSSS", "HHHHHHHH", "SSHSHHSH"} {
			list = append(list, bondOf(impl.Course{Lead: lead, Cycle: cycle}), bondOf(plain, impl.Course{Lead: lead, Cycle: cycle}))
		}
	}
	for n := 2; n <= impl.MaxBondCourses; n++ {
		list = append(list, bondOf(slices.Repeat([]impl.Course{plain}, n)...), bondOf(slices.Repeat([]impl.Course{long}, n)...))
		several := slices.Repeat([]impl.Course{{Cycle: "S"}, {Lead: "C", Cycle: "HHHS"}, {Lead: "TTB", Cycle: "H"}}, 3)[:n]
		list = append(list, bondOf(several...))
	}
	return list
}

// invalidCourses have one fault each.
func invalidCourses() []impl.Course {
	list := []impl.Course{
		{}, {Lead: "S"}, {Lead: "SHTBCB"}, {Cycle: "SSSSSSSSS"}, {Cycle: "SHSHSHSHSHSHSHSH"}, {Lead: "SSSSSSS", Cycle: "S"}, {Lead: "CCCCCCC", Cycle: "SSSSSSSS"},
		{Lead: "CCCCCC", Cycle: "SSSSSSSSS"}, {Lead: strings.Repeat("S", 500), Cycle: "S"}, {Lead: "C", Cycle: strings.Repeat("H", 500)},
		{Lead: "S", Cycle: "C"}, {Lead: "H+", Cycle: "S"}, {Lead: "", Cycle: "+S"}, {Lead: "H", Cycle: "S+"}, {Lead: "H", Cycle: "S H"}, {Lead: " ", Cycle: "S"},
	}
	for b := range 256 {
		letter := string([]byte{byte(b)})
		if !strings.Contains("SHTBC", letter) {
			list = append(list, impl.Course{Lead: letter, Cycle: "S"}, impl.Course{Lead: "SC" + letter + "H", Cycle: "S"})
		}
		if !strings.Contains("SH", letter) {
			list = append(list, impl.Course{Cycle: letter}, impl.Course{Lead: "C", Cycle: "S" + letter + "H"}, impl.Course{Cycle: "HH" + letter})
		}
	}
	return list
}

// invalidBonds have one fault each, at any place.
func invalidBonds() []impl.Bond {
	list := []impl.Bond{
		{}, {Name: "own"}, {Name: "own", Courses: []impl.Course{}}, {Courses: []impl.Course{plain}},
		bondOf(slices.Repeat([]impl.Course{plain}, 9)...), bondOf(slices.Repeat([]impl.Course{long}, 9)...), bondOf(slices.Repeat([]impl.Course{plain}, 1000)...),
	}
	for _, name := range []string{"", "Own", "1own", "-own", "own bond", "own ", " own", "own+", "abcdefgh-0123", "o\xff", "öwn", "own\n", "own\x00"} {
		list = append(list, impl.Bond{Name: name, Courses: []impl.Course{plain, long}})
	}
	for _, c := range invalidCourses() {
		list = append(list, bondOf(c), bondOf(c, plain), bondOf(plain, c))
	}
	for k := range impl.MaxBondCourses {
		courses := slices.Repeat([]impl.Course{long}, impl.MaxBondCourses)
		courses[k] = impl.Course{Lead: "C"}
		list = append(list, bondOf(courses...))
	}
	return list
}

// guardedBond returns a bond with unused capacity behind its courses, and a function that checks that all is as it was.
func guardedBond(b impl.Bond) (impl.Bond, func(t *testing.T, call string)) {
	courses, unchanged := guarded(b.Courses, impl.Course{Lead: "B", Cycle: "H"})
	return impl.Bond{Name: b.Name, Courses: courses}, unchanged
}

// wantedEnds returns the ends of all pieces of a course of a wall that are at most until, and those of headers alone.
func wantedEnds(b impl.Bond, course, until int64) (ends, headers []int64) {
	quarters := map[rune]int64{'S': 4, 'H': 2, 'T': 3, 'B': 2, 'C': 1}
	for course >= int64(len(b.Courses)) {
		course -= int64(len(b.Courses))
	}
	c := b.Courses[course]
	end := int64(0)
	for _, piece := range c.Lead + strings.Repeat(c.Cycle, 200) {
		end += quarters[piece]
		if end > until {
			break
		}
		ends = append(ends, end)
		if piece == 'H' {
			headers = append(headers, end)
		}
	}
	return ends, headers
}

// wantedLap returns the least distance of places of two lists, and -1 if there is none.
func wantedLap(one, other []int64) int64 {
	lap := int64(-1)
	for _, x := range one {
		for _, y := range other {
			if away := max(x-y, y-x); lap < 0 || away < lap {
				lap = away
			}
		}
	}
	return lap
}

// expectLap checks a lap; -1 stands for none.
func expectLap(t *testing.T, call string, lap, code, want int64) {
	t.Helper()
	if want < 0 {
		expect(t, call, values(lap, code), 0, impl.ErrNotFound)
	} else {
		expect(t, call, values(lap, code), want, impl.OK)
	}
}

func TestBondConstants(t *testing.T) {
	expect(t, "limits", values(impl.MaxBondCourses, impl.MaxLead, impl.MaxCycle, impl.MaxBondText), 8, 6, 8, 400)
	expect(t, "kinds", values(impl.BondWords, impl.BondName, impl.BondLetter, impl.BondEmpty, impl.BondLong, impl.BondMany), 1, 2, 3, 4, 5, 6)
}

func TestValidBond(t *testing.T) {
	for _, b := range validBonds() {
		expect(t, fmt.Sprintf("ValidBond(%q)", b), values(impl.ValidBond(b)), true)
	}
	for _, b := range invalidBonds() {
		expect(t, fmt.Sprintf("ValidBond(%q)", b), values(impl.ValidBond(b)), false)
	}
}

// TestValidBondAtEachEdge adds one letter, one course or one letter of the name at a time.
func TestValidBondAtEachEdge(t *testing.T) {
	for n := range 20 {
		for _, piece := range "SHTBC" {
			letters := strings.Repeat(string(piece), n)
			whole := piece == 'S' || piece == 'H'
			expect(t, fmt.Sprintf("ValidBond with the Lead %q", letters), values(impl.ValidBond(bondOf(impl.Course{Lead: letters, Cycle: "H"}))), n <= 6)
			expect(t, fmt.Sprintf("ValidBond with the Cycle %q", letters), values(impl.ValidBond(bondOf(impl.Course{Cycle: letters}))), whole && n >= 1 && n <= 8)
			expect(t, fmt.Sprintf("ValidBond with the Cycle %q", letters), values(impl.ValidBond(bondOf(impl.Course{Lead: "SHTBCC", Cycle: letters}))), whole && n >= 1 && n <= 8)
		}
		expect(t, fmt.Sprintf("ValidBond of %d courses", n), values(impl.ValidBond(bondOf(slices.Repeat([]impl.Course{long}, n)...))), n >= 1 && n <= 8)
		name := strings.Repeat("n", n)
		expect(t, fmt.Sprintf("ValidBond with the name %q", name), values(impl.ValidBond(impl.Bond{Name: name, Courses: []impl.Course{plain}})), n >= 1 && n <= 12)
	}
}

func TestSameBond(t *testing.T) {
	bonds := append(validBonds(), invalidBonds()[:40]...)
	// The bond without a name and without courses is there once; so is that with a name alone.
	bonds = slices.DeleteFunc(bonds, func(b impl.Bond) bool { return len(b.Courses) == 0 && b.Courses != nil })
	for k, one := range bonds {
		for m, other := range bonds {
			same := fmt.Sprintf("%#v", one) == fmt.Sprintf("%#v", other)
			expect(t, fmt.Sprintf("SameBond of %d and %d", k, m), values(impl.SameBond(one, impl.Bond{Name: other.Name, Courses: slices.Clone(other.Courses)})), same)
		}
	}
	none, empty := impl.Bond{Name: "x"}, impl.Bond{Name: "x", Courses: []impl.Course{}}
	expect(t, "SameBond of nil and no courses", values(impl.SameBond(none, empty), impl.SameBond(empty, none), impl.SameBond(impl.Bond{}, impl.Bond{})), true, true, true)
	expect(t, "SameBond of other names", values(impl.SameBond(none, impl.Bond{}), impl.SameBond(none, impl.Bond{Name: "X"})), false, false)
	one := bondOf(plain, long, plain)
	for _, other := range []impl.Bond{
		bondOf(plain, long), bondOf(plain, long, plain, plain), bondOf(long, plain, plain), bondOf(plain, plain, long), bondOf(plain, long, long), bondOf(),
		bondOf(plain, impl.Course{Lead: long.Lead, Cycle: "S"}, plain), bondOf(plain, impl.Course{Lead: "S", Cycle: long.Cycle}, plain), bondOf(plain, impl.Course{Lead: long.Cycle, Cycle: long.Lead}, plain),
		{Name: "own2", Courses: []impl.Course{plain, long, plain}}, {Courses: []impl.Course{plain, long, plain}},
	} {
		expect(t, fmt.Sprintf("SameBond with %q", other), values(impl.SameBond(one, other), impl.SameBond(other, one)), false, false)
	}
}

func TestLibrary(t *testing.T) {
	names := []string{"stretcher", "header", "english", "flemish", "garden"}
	expect(t, "BondNames", values(impl.BondNames()), names)
	for k, name := range names {
		b, code := impl.BondNamed(name)
		expect(t, "BondNamed "+name, values(b, code), libraryBonds[k], impl.OK)
		expect(t, "BondNamed "+name+" has the text", values(impl.BondText(b)), libraryTexts[k])
		spoil(b.Courses, impl.Course{Lead: "spoilt"})
		expect(t, "BondNamed "+name+" again", values(impl.BondNamed(name)), libraryBonds[k], impl.OK)
	}
	spoil(impl.BondNames(), "spoilt")
	expect(t, "BondNames again", values(impl.BondNames()), names)
	for _, name := range []string{
		"", " ", "none", "own", "Stretcher", "ENGLISH", "stretche", "stretchers", " english", "english ", "english S HC+H", "flemish\n", "garden\x00", "gar", "S", "stretcher header",
		strings.Repeat("english", 100),
	} {
		expect(t, fmt.Sprintf("BondNamed(%q)", name), values(impl.BondNamed(name)), impl.Bond{}, impl.ErrNotFound)
	}
}

// TestBondsExample is the example of chapter 4.
func TestBondsExample(t *testing.T) {
	b, ok := impl.ReadBond("english S HC+H")
	expect(t, "ReadBond", values(b, ok), libraryBonds[2], true)
	expect(t, "PerpendsOf", values(impl.PerpendsOf(b, 1, 8)), []int64{2, 3, 5, 7}, impl.OK)
	expect(t, "LapOfBond", values(impl.LapOfBond(b, 8)), 1, impl.OK)
}

func TestPerpendsOf(t *testing.T) {
	english, flemish := libraryBonds[2], libraryBonds[3]
	known := []struct {
		b             impl.Bond
		course, until int64
		want          []int64
	}{
		{english, 0, 4, nil}, {english, 0, 5, []int64{4}}, {english, 0, 3, nil}, {english, 0, 1, nil}, {english, 2, 9, []int64{4, 8}}, {english, 1000, 8, []int64{4}}, {english, 999, 8, []int64{2, 3, 5, 7}},
		{english, 1, 2, nil}, {english, 1, 3, []int64{2}}, {english, 1, 1, nil}, {english, 1, 4, []int64{2, 3}}, {english, 1, 7, []int64{2, 3, 5}}, {english, 1, 6, []int64{2, 3, 5}},
		{flemish, 0, 13, []int64{4, 6, 10, 12}}, {flemish, 1, 16, []int64{2, 3, 7, 9, 13, 15}}, {flemish, 1, 15, []int64{2, 3, 7, 9, 13}}, {flemish, 1, 14, []int64{2, 3, 7, 9, 13}},
		{bondOf(long), 0, 40, []int64{4, 6, 9, 11, 12, 14, 18, 22, 24, 28, 30, 32, 36, 38}}, {bondOf(impl.Course{Lead: "CCCCCC", Cycle: "S"}), 500, 12, []int64{1, 2, 3, 4, 5, 6, 10}},
		{bondOf(impl.Course{Lead: "T", Cycle: "H"}), 7, 11, []int64{3, 5, 7, 9}}, {bondOf(impl.Course{Lead: "T", Cycle: "H"}), 7, 12, []int64{3, 5, 7, 9, 11}},
	}
	for _, k := range known {
		got, code := impl.PerpendsOf(k.b, k.course, k.until)
		if len(k.want) == 0 {
			expect(t, fmt.Sprintf("PerpendsOf(%q, %d, %d)", k.b, k.course, k.until), values(len(got), code), 0, impl.OK)
		} else {
			expect(t, fmt.Sprintf("PerpendsOf(%q, %d, %d)", k.b, k.course, k.until), values(got, code), k.want, impl.OK)
		}
	}
}

// TestPerpendsOfAll goes through all ends of courses, and through courses again and again.
func TestPerpendsOfAll(t *testing.T) {
	for _, bond := range validBonds() {
		b, unchanged := guardedBond(bond)
		for _, course := range []int64{0, 1, 2, 7, 9, 999, 1000} {
			for until := int64(1); until <= impl.MaxQuarters; until++ {
				ends, _ := wantedEnds(b, course, until-1)
				got, code := impl.PerpendsOf(b, course, until)
				if code != impl.OK || !slices.Equal(got, ends) {
					t.Errorf("PerpendsOf(%q, %d, %d): got %v, %d, want %v", b, course, until, got, code, ends)
				}
			}
		}
		got, _ := impl.PerpendsOf(b, 0, 200)
		spoil(got, 77)
		unchanged(t, fmt.Sprintf("PerpendsOf(%q)", b))
	}
}

// TestPromise4Perpends: from 0 on, perpends are as far apart as the pieces are long.
func TestPromise4Perpends(t *testing.T) {
	for _, b := range validBonds() {
		for course := range int64(10) {
			places, code := impl.PerpendsOf(b, course, impl.MaxQuarters)
			expect(t, fmt.Sprintf("PerpendsOf(%q, %d)", b, course), values(code), impl.OK)
			c := b.Courses[course%int64(len(b.Courses))]
			pieces := c.Lead + strings.Repeat(c.Cycle, len(places)+1)
			before := int64(0)
			for k, place := range places {
				quarters, _ := impl.QuartersOf(pieces[k])
				expect(t, fmt.Sprintf("piece %d of course %d of %q", k, course, b), values(place-before), quarters)
				before = place
			}
			quarters, _ := impl.QuartersOf(pieces[len(places)])
			expect(t, fmt.Sprintf("the last perpend of course %d of %q", course, b), values(before+quarters >= impl.MaxQuarters), true)
		}
	}
}

func TestLapBetween(t *testing.T) {
	stretcher, header, english, garden := libraryBonds[0], libraryBonds[1], libraryBonds[2], libraryBonds[4]
	closers := bondOf(impl.Course{Cycle: "S"}, impl.Course{Lead: "C", Cycle: "S"}, impl.Course{Lead: "SSSSSS", Cycle: "S"}, impl.Course{Lead: "TTTTC", Cycle: "S"})
	known := []struct {
		b                impl.Bond
		low, high, until int64
		want             int64
	}{
		{stretcher, 0, 1, 200, 2}, {header, 0, 1, 200, 1}, {english, 0, 1, 12, 1}, {english, 1, 0, 12, 1}, {garden, 0, 1, 50, 2}, {garden, 2, 3, 50, 1}, {garden, 0, 3, 50, 1}, {garden, 1, 3, 50, 0},
		// a perpend of both at the same place
		{garden, 0, 2, 50, 0}, {garden, 0, 4, 50, 0}, {english, 0, 0, 5, 0}, {english, 0, 1000, 5, 0}, {english, 1, 999, 3, 0}, {closers, 0, 3, 17, 0}, {closers, 0, 3, 12, 1}, {closers, 0, 2, 25, 0},
		// one of both has none before until, or both
		{english, 0, 1, 4, -1}, {english, 0, 1, 5, 1}, {english, 0, 1, 2, -1}, {english, 0, 1, 1, -1}, {english, 1, 0, 4, -1}, {english, 1, 1, 2, -1}, {english, 1, 1, 3, 0}, {english, 0, 0, 4, -1},
		{closers, 0, 1, 4, -1}, {closers, 0, 1, 5, 3}, {closers, 0, 1, 6, 1}, {closers, 1, 0, 5, 3}, {closers, 1, 0, 6, 1}, {closers, 1, 5, 2, 0}, {closers, 1, 5, 1, -1},
		{header, 0, 1, 2, -1}, {header, 0, 1, 3, 1}, {header, 1, 1, 2, 0}, {header, 1, 1, 1, -1},
	}
	for _, k := range known {
		lap, code := impl.LapBetween(k.b, k.low, k.high, k.until)
		expectLap(t, fmt.Sprintf("LapBetween(%q, %d, %d, %d)", k.b, k.low, k.high, k.until), lap, code, k.want)
	}
}

func TestLapsOfAll(t *testing.T) {
	untils := []int64{1, 2, 3, 4, 5, 6, 7, 9, 13, 24, 49, 200}
	for _, bond := range validBonds() {
		b, unchanged := guardedBond(bond)
		for _, until := range untils {
			least := int64(-1)
			for low := range int64(len(b.Courses)) {
				one, _ := wantedEnds(b, low, until-1)
				for _, high := range []int64{0, 1, low, low + 1, low + 2, 500 + low, 1000} {
					other, _ := wantedEnds(b, high, until-1)
					want := wantedLap(one, other)
					lap, code := impl.LapBetween(b, low, high, until)
					expectLap(t, fmt.Sprintf("LapBetween(%q, %d, %d, %d)", b, low, high, until), lap, code, want)
					lap, code = impl.LapBetween(b, high, low, until)
					expectLap(t, fmt.Sprintf("LapBetween(%q, %d, %d, %d)", b, high, low, until), lap, code, want)
				}
				next, _ := wantedEnds(b, low+1, until-1)
				if lap := wantedLap(one, next); lap >= 0 && (least < 0 || lap < least) {
					least = lap
				}
			}
			lap, code := impl.LapOfBond(b, until)
			expectLap(t, fmt.Sprintf("LapOfBond(%q, %d)", b, until), lap, code, least)
		}
		unchanged(t, fmt.Sprintf("a lap of %q", b))
	}
}

func TestLapOfBond(t *testing.T) {
	first := bondOf(impl.Course{Cycle: "S"}, impl.Course{Lead: "B", Cycle: "S"}, impl.Course{Lead: "C", Cycle: "S"})
	last := bondOf(impl.Course{Lead: "C", Cycle: "S"}, impl.Course{Lead: "T", Cycle: "S"}, impl.Course{Cycle: "S"})
	known := []struct {
		b     impl.Bond
		until int64
		want  int64
	}{
		{libraryBonds[0], 200, 2}, {libraryBonds[1], 200, 1}, {libraryBonds[2], 12, 1}, {libraryBonds[3], 200, 1}, {libraryBonds[4], 200, 1},
		// one course: it is above itself
		{bondOf(plain), 200, 0}, {bondOf(plain), 5, 0}, {bondOf(plain), 4, -1}, {bondOf(plain), 1, -1}, {bondOf(long), 200, 0}, {bondOf(long), 5, 0}, {bondOf(long), 4, -1},
		{bondOf(impl.Course{Lead: "C", Cycle: "S"}), 2, 0}, {bondOf(impl.Course{Lead: "C", Cycle: "S"}), 1, -1},
		// the last course is below the first one
		{bondOf(plain, impl.Course{Lead: "B", Cycle: "S"}, plain), 200, 0}, {first, 200, 1}, {first, 4, 1}, {first, 3, 1}, {first, 2, -1}, {last, 200, 1}, {last, 6, 1}, {last, 5, 1}, {last, 4, 2}, {last, 3, -1},
		// courses that have no perpend before until leave the others as they are
		{bondOf(impl.Course{Lead: "C", Cycle: "S"}, impl.Course{Lead: "T", Cycle: "S"}, plain), 4, 2}, {libraryBonds[4], 4, -1}, {libraryBonds[4], 5, 1}, {libraryBonds[0], 4, -1}, {libraryBonds[0], 5, 2}, {libraryBonds[1], 2, -1}, {libraryBonds[1], 3, 1},
	}
	for _, k := range known {
		lap, code := impl.LapOfBond(k.b, k.until)
		expectLap(t, fmt.Sprintf("LapOfBond(%q, %d)", k.b, k.until), lap, code, k.want)
	}
}

func TestHeadersIn(t *testing.T) {
	english, flemish := libraryBonds[2], libraryBonds[3]
	known := []struct {
		b             impl.Bond
		course, until int64
		want          int64
	}{
		{english, 1, 9, 4}, {english, 1, 8, 3}, {english, 1, 7, 3}, {english, 1, 6, 2}, {english, 1, 2, 1}, {english, 1, 1, 0}, {english, 1, 3, 1}, {english, 1, 4, 1}, {english, 1, 5, 2}, {english, 0, 200, 0},
		{english, 999, 200, 99}, {english, 1000, 200, 0}, {flemish, 0, 5, 0}, {flemish, 0, 6, 1}, {flemish, 0, 7, 1}, {flemish, 0, 12, 2}, {flemish, 0, 11, 1}, {flemish, 1, 9, 2}, {flemish, 1, 8, 1},
		{libraryBonds[1], 0, 200, 100}, {libraryBonds[1], 0, 199, 99}, {libraryBonds[1], 1, 200, 99}, {libraryBonds[1], 1, 199, 99}, {bondOf(long), 0, 200, 32},
		// half bats are as long as headers, but they are none
		{bondOf(impl.Course{Lead: "BBB", Cycle: "S"}), 0, 200, 0}, {bondOf(impl.Course{Lead: "HBH", Cycle: "S"}), 0, 200, 2}, {bondOf(impl.Course{Lead: "HBH", Cycle: "S"}), 0, 5, 1},
	}
	for _, k := range known {
		expect(t, fmt.Sprintf("HeadersIn(%q, %d, %d)", k.b, k.course, k.until), values(impl.HeadersIn(k.b, k.course, k.until)), k.want, impl.OK)
	}
	for _, bond := range validBonds() {
		b, unchanged := guardedBond(bond)
		for _, course := range []int64{0, 1, 2, 5, 8, 999, 1000} {
			for until := int64(1); until <= impl.MaxQuarters; until++ {
				_, headers := wantedEnds(b, course, until)
				if got, code := impl.HeadersIn(b, course, until); got != int64(len(headers)) || code != impl.OK {
					t.Errorf("HeadersIn(%q, %d, %d): got %d, %d, want %v", b, course, until, got, code, headers)
				}
			}
		}
		unchanged(t, fmt.Sprintf("HeadersIn(%q)", b))
	}
}

// TestBondErrors: the errors of all functions of courses of a wall, in their order, each beside zero values.
func TestBondErrors(t *testing.T) {
	check := func(b impl.Bond, course, until, code int64) {
		t.Helper()
		call := fmt.Sprintf("(%q, %d, %d)", b, course, until)
		expect(t, "PerpendsOf"+call, values(impl.PerpendsOf(b, course, until)), []int64(nil), code)
		expect(t, "HeadersIn"+call, values(impl.HeadersIn(b, course, until)), 0, code)
		expect(t, "LapBetween with 0"+call, values(impl.LapBetween(b, 0, course, until)), 0, code)
		expect(t, "LapBetween with 0, the other way"+call, values(impl.LapBetween(b, course, 0, until)), 0, code)
		expect(t, "LapBetween with itself"+call, values(impl.LapBetween(b, course, course, until)), 0, code)
	}
	wrong := []int64{}
	for _, n := range append([]int64{-2, -1000, 1001, 1002, 2000}, extremes...) {
		if n != 0 && n != 1 {
			wrong = append(wrong, n)
		}
	}
	wrongUntil := append([]int64{0, -200, 201, 202}, wrong...)
	for _, b := range invalidBonds() {
		check(b, 0, 8, impl.ErrInvalid)
		check(b, -1, 8, impl.ErrInvalid)
		check(b, 1001, 201, impl.ErrInvalid)
		check(b, 0, 0, impl.ErrInvalid)
		expect(t, fmt.Sprintf("LapOfBond(%q, 8)", b), values(impl.LapOfBond(b, 8)), 0, impl.ErrInvalid)
		expect(t, fmt.Sprintf("LapOfBond(%q, 0)", b), values(impl.LapOfBond(b, 0)), 0, impl.ErrInvalid)
	}
	for _, b := range []impl.Bond{libraryBonds[2], bondOf(plain), bondOf(long), bondOf(slices.Repeat([]impl.Course{long}, 8)...)} {
		for _, course := range wrong {
			for _, until := range append([]int64{1, 2, 8, 200}, wrongUntil...) {
				check(b, course, until, impl.ErrRange)
			}
		}
		for _, until := range wrongUntil {
			check(b, 0, until, impl.ErrRange)
			check(b, 1000, until, impl.ErrRange)
			expect(t, fmt.Sprintf("LapOfBond(%q, %d)", b, until), values(impl.LapOfBond(b, until)), 0, impl.ErrRange)
		}
		// ErrRange goes before ErrNotFound.
		expect(t, "LapBetween of 1001", values(impl.LapBetween(b, 1001, 0, 1)), 0, impl.ErrRange)
		expect(t, "LapBetween of 1000", values(impl.LapBetween(b, 1000, 1000, 1)), 0, impl.ErrNotFound)
		expect(t, "LapOfBond until 1", values(impl.LapOfBond(b, 1)), 0, impl.ErrNotFound)
	}
}

// TestPromise4Texts: bonds are read back from their texts.
func TestPromise4Texts(t *testing.T) {
	for _, bond := range validBonds() {
		b, unchanged := guardedBond(bond)
		want := b.Name
		for _, c := range b.Courses {
			want += " "
			if c.Lead != "" {
				want += c.Lead + "+"
			}
			want += c.Cycle
		}
		call := fmt.Sprintf("the text %q", want)
		expect(t, call, values(impl.BondText(b)), want)
		expect(t, "ReadBond of "+call, values(impl.ReadBond(want)), bond, true)
		expect(t, "CheckBond of "+call, values(impl.CheckBond(want)), bond, []impl.Problem(nil), impl.OK)
		unchanged(t, call)
	}
	for _, b := range invalidBonds() {
		expect(t, fmt.Sprintf("BondText(%q)", b), values(impl.BondText(b)), "")
	}
}

func TestBondText(t *testing.T) {
	known := map[string]impl.Bond{
		"own S":                       bondOf(plain),
		"own SHTBCB+SSHSHHSH":         bondOf(long),
		"own H+H C+H S":               bondOf(impl.Course{Lead: "H", Cycle: "H"}, impl.Course{Lead: "C", Cycle: "H"}, plain),
		"abcdefgh-012 CCCCCC+SSSSSSS": {Name: "abcdefgh-012", Courses: []impl.Course{{Lead: "CCCCCC", Cycle: "SSSSSSS"}}},
		"s S S S S S S S S":           {Name: "s", Courses: slices.Repeat([]impl.Course{plain}, 8)},
		"a- HS T+H B+S":               {Name: "a-", Courses: []impl.Course{{Cycle: "HS"}, {Lead: "T", Cycle: "H"}, {Lead: "B", Cycle: "S"}}},
	}
	for s, b := range known {
		expect(t, fmt.Sprintf("BondText(%q)", b), values(impl.BondText(b)), s)
		expect(t, fmt.Sprintf("ReadBond(%q)", s), values(impl.ReadBond(s)), b, true)
	}
	full := impl.Bond{Name: "abcdefgh-012", Courses: slices.Repeat([]impl.Course{long}, 8)}
	expect(t, "the longest text", values(impl.BondText(full)), "abcdefgh-012"+strings.Repeat(" SHTBCB+SSHSHHSH", 8))
}

// textsOfNone are texts of no bond, each with its problems.
func textsOfNone() map[string][]impl.Problem {
	none := func(kinds ...int64) []impl.Problem {
		list := []impl.Problem{}
		for k := 0; k < len(kinds); k += 2 {
			list = append(list, impl.Problem{Word: kinds[k], Kind: kinds[k+1]})
		}
		return list
	}
	const words, name, letter, empty, tooLong, many = impl.BondWords, impl.BondName, impl.BondLetter, impl.BondEmpty, impl.BondLong, impl.BondMany
	return map[string][]impl.Problem{
		// the first word: without another one it is no matter whether it is a name
		"": none(0, words), "own": none(0, words), "Own": none(0, words), "S": none(0, words), "own\tS": none(0, words), "own\nS": none(0, words), "abcdefgh-0123": none(0, words), "english,S,HC+H": none(0, words),
		"Own S": none(0, name), "1own S": none(0, name), "-own S": none(0, name), "abcdefgh-0123 S": none(0, name), "o.n S": none(0, name), "S S": none(0, name), "öwn S": none(0, name), "o\xff S": none(0, name), "own\n S": none(0, name), "own+ S": none(0, name),
		// blanks
		" ": none(0, name, 1, empty), "  ": none(0, name, 1, empty, 2, empty), " S": none(0, name), " own S": none(0, name, 1, letter), "own ": none(1, empty), "own  ": none(1, empty, 2, empty), "own  S": none(1, empty), "own S ": none(2, empty),
		"own S  S": none(2, empty), "own S S  ": none(3, empty, 4, empty), "own S\tS": none(1, letter), "own S\n": none(1, letter), "own S\u00a0S": none(1, letter), "own S\x00": none(1, letter),
		// letters
		"own s": none(1, letter), "own T": none(1, letter), "own B": none(1, letter), "own C": none(1, letter), "own HC": none(1, letter), "own SCS": none(1, letter), "own S+C": none(1, letter), "own S+SB": none(1, letter), "own S+T": none(1, letter),
		"own x+S": none(1, letter), "own s+S": none(1, letter), "own C-S": none(1, letter), "own CxC+S": none(1, letter), "own C++S": none(1, letter), "own C+S+": none(1, letter), "own +C+S": none(1, letter), "own S+S+S": none(1, letter), "own ++": none(1, letter), "own +++": none(1, letter),
		"own 4": none(1, letter), "own S1": none(1, letter), "own \xff": none(1, letter), "own S\xff+S": none(1, letter), "own é+S": none(1, letter), "own english": none(1, letter), "own +x": none(1, letter), "own x+": none(1, letter), "own +C": none(1, letter),
		// the first one of several kinds in one word: letters before empty ones, and both before long ones
		"own xxxxxxxxx": none(1, letter), "own SSSSSSSSSx": none(1, letter), "own CCCCCCC": none(1, letter), "own CCCCCCCx+S": none(1, letter), "own CCCCCCC+C": none(1, letter), "own CCCCCCC++": none(1, letter), "own CCCCCCC+SSSSSSSSSC": none(1, letter),
		"own +SSSSSSSSS": none(1, empty), "own CCCCCCC+": none(1, empty), "own C+": none(1, empty), "own +S": none(1, empty), "own +": none(1, empty), "own +SSSSSSSS": none(1, empty), "own CCCCCC+": none(1, empty), "own S C+ H": none(2, empty),
		// long ones
		"own SSSSSSSSS": none(1, tooLong), "own HHHHHHHHHH": none(1, tooLong), "own SHTBCSH+S": none(1, tooLong), "own SHTBCS+SSSSSSSSS": none(1, tooLong), "own SHTBCSH+SSSSSSSSS": none(1, tooLong), "own SHTBCSH+SSSSSSSS": none(1, tooLong), "own C+HHHHHHHHH": none(1, tooLong),
		// too many courses: what these words are is no matter
		"own S S S S S S S S S": none(9, many), "own S S S S S S S S ": none(9, many), "own S S S S S S S S x": none(9, many), "own S S S S S S S S +S": none(9, many), "own S S S S S S S S SSSSSSSSS": none(9, many), "own S S S S S S S S C+H": none(9, many),
		"own S S S S S S S S S S S": none(9, many, 10, many, 11, many), "own S S S S S S S S   ": none(9, many, 10, many, 11, many), "own S S S S S S S S x + ": none(9, many, 10, many, 11, many),
		"own S S S S S S S x S": none(8, letter, 9, many), "own S S S S S S S  S": none(8, empty, 9, many), "own S S S S S S S SSSSSSSSS S": none(8, tooLong, 9, many), "Own S S S S S S S S S": none(0, name, 9, many),
		"         ":              none(0, name, 1, empty, 2, empty, 3, empty, 4, empty, 5, empty, 6, empty, 7, empty, 8, empty, 9, many),
		"own         ":           none(1, empty, 2, empty, 3, empty, 4, empty, 5, empty, 6, empty, 7, empty, 8, empty, 9, many),
		"own S S S S S S S S  S": none(9, many, 10, many),
		// several problems
		"Own S x+S +H HHHHHHHHH": none(0, name, 2, letter, 3, empty, 4, tooLong), "x x x": none(1, letter, 2, letter), "own C + SSSSSSSSS S": none(1, letter, 2, empty, 3, tooLong), "own SSSSSSSSS + C S": none(1, tooLong, 2, empty, 3, letter),
		"own S C+S CC": none(3, letter), "own  S +": none(1, empty, 3, empty), "english S HC+H flemish": none(3, letter), "english S HC + H": none(2, letter, 3, empty), "english S HC +H": none(2, letter, 3, empty), "english S HC+ H": none(2, empty),
	}
}

func TestPromise4Problems(t *testing.T) {
	for s, problems := range textsOfNone() {
		expect(t, fmt.Sprintf("CheckBond(%q)", s), values(impl.CheckBond(s)), impl.Bond{}, problems, impl.OK)
		expect(t, fmt.Sprintf("ReadBond(%q)", s), values(impl.ReadBond(s)), impl.Bond{}, false)
	}
}

// wantedProblems are those of patterns of words: each pattern allows what the one before it allows, but for one problem.
func wantedProblems(s string) []impl.Problem {
	patterns := []*regexp.Regexp{
		regexp.MustCompile(`^([SHTBC]*\+)?[SH]*$`), regexp.MustCompile(`^([SHTBC]+\+)?[SH]+$`), regexp.MustCompile(`^([SHTBC]{1,6}\+)?[SH]{1,8}$`),
	}
	var list []impl.Problem
	for k, word := range strings.Split(s, " ") {
		kind := int64(0)
		switch {
		case k == 0 && s == word:
			kind = impl.BondWords
		case k == 0 && !regexp.MustCompile(`^[a-z][a-z0-9-]{0,11}$`).MatchString(word):
			kind = impl.BondName
		case k == 0:
		case k >= 9:
			kind = impl.BondMany
		case !patterns[0].MatchString(word):
			kind = impl.BondLetter
		case !patterns[1].MatchString(word):
			kind = impl.BondEmpty
		case !patterns[2].MatchString(word):
			kind = impl.BondLong
		}
		if kind != 0 {
			list = append(list, impl.Problem{Word: int64(k), Kind: kind})
		}
	}
	return list
}

// checkText checks all that is told of a text of at most MaxBondText bytes.
func checkText(t *testing.T, s string) {
	t.Helper()
	wanted := wantedProblems(s)
	b, problems, code := impl.CheckBond(s)
	if code != impl.OK || !slices.Equal(problems, wanted) {
		t.Errorf("CheckBond(%q): got %v, %d, want %v", s, problems, code, wanted)
	}
	back, ok := impl.ReadBond(s)
	expect(t, fmt.Sprintf("ReadBond(%q)", s), values(back, ok), b, len(wanted) == 0)
	if len(wanted) == 0 {
		expect(t, fmt.Sprintf("the bond of %q", s), values(impl.ValidBond(b), impl.BondText(b)), true, s)
	} else {
		expect(t, fmt.Sprintf("the bond of %q", s), values(b), impl.Bond{})
	}
}

// TestCheckBondOfAllWords checks all short words of some letters, and all lengths of both parts.
func TestCheckBondOfAllWords(t *testing.T) {
	words := []string{""}
	for k := 0; len(words[k]) < 4; k++ {
		for _, letter := range "SHC+x" {
			words = append(words, words[k]+string(letter))
		}
	}
	for _, word := range words {
		for _, form := range []string{"own %s", "own S %s", "Own %s H", "own S S S S S S S %s", "own S S S S S S S S %s", "own S S S S S S S %s S", "%s S", "%s"} {
			checkText(t, fmt.Sprintf(form, word))
		}
		if len(word) <= 2 {
			for _, other := range words[:31] {
				checkText(t, "own "+word+" "+other)
			}
		}
	}
	for lead := range 12 {
		for cycle := range 12 {
			for _, form := range []string{"own %s+%s", "own S %s+%s", "own %s%s", "own %s+%s H+S"} {
				checkText(t, fmt.Sprintf(form, strings.Repeat("C", lead), strings.Repeat("H", cycle)))
				checkText(t, fmt.Sprintf(form, strings.Repeat("S", lead), strings.Repeat("S", cycle)))
			}
		}
	}
}

// TestCheckBondOfChangedTexts changes, adds and leaves out each byte of a text.
func TestCheckBondOfChangedTexts(t *testing.T) {
	for _, text := range []string{"english S HC+H", "a SHTBCB+HHHHHHHH", "abcdefgh-012 S S S S S S S C+S"} {
		for _, s := range changedTexts(text) {
			checkText(t, s)
		}
	}
}

// TestCheckBondOfLongTexts: texts of MaxBondText bytes are checked, and none of one more.
func TestCheckBondOfLongTexts(t *testing.T) {
	for _, part := range []string{" ", "S", "x", "+", "own ", "S ", " S", "own S S", "SHTBCB+SSHSHHSH ", "\xff", "é"} {
		for _, front := range []string{"", "own ", "Own S "} {
			whole := front + strings.Repeat(part, 500)
			for _, length := range []int{1, 12, 141, 398, 399, 400} {
				checkText(t, whole[:length])
			}
			for _, length := range []int{401, 402, 500} {
				expect(t, fmt.Sprintf("CheckBond of %d bytes %q", length, part), values(impl.CheckBond(whole[:length])), impl.Bond{}, []impl.Problem(nil), impl.ErrFull)
				expect(t, fmt.Sprintf("ReadBond of %d bytes %q", length, part), values(impl.ReadBond(whole[:length])), impl.Bond{}, false)
			}
		}
	}
	blanks, code := secondAndThird(impl.CheckBond(strings.Repeat(" ", 400)))
	expect(t, "CheckBond of 400 blanks", values(len(blanks), blanks[0], blanks[400], code), 401, impl.Problem{Word: 0, Kind: impl.BondName}, impl.Problem{Word: 400, Kind: impl.BondMany}, impl.OK)
	expect(t, "CheckBond of 401 blanks", values(impl.CheckBond(strings.Repeat(" ", 401))), impl.Bond{}, []impl.Problem(nil), impl.ErrFull)
	expect(t, "CheckBond of a very long text", values(impl.CheckBond(strings.Repeat("own S ", 100000))), impl.Bond{}, []impl.Problem(nil), impl.ErrFull)
}

func secondAndThird[A, B, C any](_ A, b B, c C) (B, C) { return b, c }

func TestProblemName(t *testing.T) {
	names := []string{"", "words", "name", "letter", "empty", "long", "many", "", ""}
	for k, name := range names {
		expect(t, fmt.Sprintf("ProblemName(%d)", k), values(impl.ProblemName(int64(k))), name)
	}
	for _, kind := range extremes {
		if kind != 1 {
			expect(t, fmt.Sprintf("ProblemName(%d)", kind), values(impl.ProblemName(kind)), "")
		}
	}
}

// TestPromise1Bonds: every function of chapter 4 returns for all arguments, changes none, and keeps none of its results.
func TestPromise1Bonds(t *testing.T) {
	untils := append([]int64{2, 8, 200, 201}, extremes...)
	courses := append([]int64{2, 1000, 1001}, extremes...)
	for _, bond := range append(validBonds(), invalidBonds()[:100]...) {
		b, unchanged := guardedBond(bond)
		for _, until := range untils {
			for _, course := range courses {
				places, code := impl.PerpendsOf(b, course, until)
				before := slices.Clone(places)
				spoil(places, 77)
				expect(t, "PerpendsOf", values(impl.PerpendsOf(b, course, until)), before, code)
				expect(t, "LapBetween", values(impl.LapBetween(b, course, 1, until)), values(impl.LapBetween(b, course, 1, until))...)
				expect(t, "HeadersIn", values(impl.HeadersIn(b, course, until)), values(impl.HeadersIn(b, course, until))...)
			}
			expect(t, "LapOfBond", values(impl.LapOfBond(b, until)), values(impl.LapOfBond(b, until))...)
		}
		expect(t, "ValidBond", values(impl.ValidBond(b)), impl.ValidBond(b))
		expect(t, "SameBond", values(impl.SameBond(b, bond), impl.SameBond(bond, b)), true, true)
		s := impl.BondText(b)
		expect(t, "BondText", values(impl.BondText(b)), s)
		back, ok := impl.ReadBond(s)
		spoil(back.Courses, impl.Course{Lead: "spoilt"})
		again, okAgain := impl.ReadBond(s)
		expect(t, "ReadBond", values(impl.BondText(again), okAgain), s, ok)
		unchanged(t, "a function of bonds")
	}
	for s, wanted := range textsOfNone() {
		_, problems, _ := impl.CheckBond(s)
		spoil(problems, impl.Problem{Word: 77, Kind: 77})
		expect(t, "CheckBond", values(impl.CheckBond(s)), impl.Bond{}, wanted, impl.OK)
	}
	for _, s := range libraryTexts {
		b, _, _ := impl.CheckBond(s)
		spoil(b.Courses, impl.Course{Lead: "spoilt"})
		expect(t, "ReadBond", values(impl.BondText(firstOf(impl.ReadBond(s)))), s)
	}
}

func firstOf[A, B any](a A, _ B) A { return a }
