package tests

import (
	"fmt"
	"math"
	"slices"
	"testing"
)

// extremes are numbers that are far out of every range, and those about 0.
var extremes = []int64{math.MinInt64, math.MinInt64 + 1, -1 << 32, -1, 0, 1, 1 << 32, math.MaxInt64 - 1, math.MaxInt64}

// values puts all results of a call into one list, so that expect takes them together.
func values(results ...any) []any { return results }

// expect checks all results of a call. Numbers are compared by value: the wanted ones may be plain constants.
func expect(t *testing.T, call string, got []any, want ...any) {
	t.Helper()
	if g, w := fmt.Sprintf("%#v", got), fmt.Sprintf("%#v", want); g != w {
		t.Errorf("%s: got %s, want %s", call, g, w)
	}
}

// guarded returns a copy of a list with unused capacity behind it, and a function that checks that both are as they were.
func guarded[T comparable](list []T, behind T) ([]T, func(t *testing.T, call string)) {
	const unused = 4
	whole := slices.Concat(list, slices.Repeat([]T{behind}, unused))
	before := slices.Clone(whole)
	return whole[:len(list)], func(t *testing.T, call string) {
		t.Helper()
		if !slices.Equal(whole, before) {
			t.Errorf("%s: the argument %v, or what is behind it, has become %v", call, before, whole)
		}
	}
}

// spoil overwrites a result with its unused capacity. What is kept, or shared with an argument, changes with it.
func spoil[T any](result []T, x T) {
	whole := result[:cap(result)]
	for k := range whole {
		whole[k] = x
	}
}

// changedTexts returns a text with each byte added at each place and put instead of each byte, and with each part left out.
func changedTexts(text string) []string {
	var list []string
	for k := range len(text) + 1 {
		for b := range 256 {
			letter := string([]byte{byte(b)})
			list = append(list, text[:k]+letter+text[k:])
			if k < len(text) {
				list = append(list, text[:k]+letter+text[k+1:])
			}
		}
		for m := k; m <= len(text); m++ {
			list = append(list, text[:k]+text[m:])
		}
	}
	return list
}
