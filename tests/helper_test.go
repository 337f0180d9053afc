package tests

import (
	"fmt"
	"math"
	"testing"
)

// extremes are numbers that are far out of every range, and those about 0.
var extremes = []int64{math.MinInt64, math.MinInt64 + 1, -1 << 32, -1, 0, 1, 1 << 32, math.MaxInt64 - 1, math.MaxInt64}

// values puts all results of a call into one list, so that expect takes them together.
func values(results ...any) []any { return results }

// expect checks all results of a call. Numbers are compared by value: the wanted ones may be plain constants.
func expect(t *testing.T, call string, got []any, want ...any) {
	t.Helper()
	if g, w := fmt.Sprintf("%#v", got), fmt.Sprintf("%#v", want); g != w {
		t.Errorf("%s: got %s, want %s", call, g, w)
	}
}
