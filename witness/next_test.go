package witness_test

import (
	"strings"
	"testing"

	"witness/api"
	"witness/witness"
)

func wantNext(t *testing.T, src string, p int, way int, point int, err api.Errno) {
	t.Helper()
	n, e := witness.Next(src, p, way)
	if n != point || e != err {
		t.Errorf("P4: Next(%q, %d, %d) = %d, %d, want %d, %d", src, p, way, n, e, point, err)
	}
}

func TestNext(t *testing.T) {
	choice := "?a<=1{b=2;}{}c=3;"
	loop := "@*{a=1;}"
	nested := "@*{?*{a=1;}{}?*{}{b=1;@*{}}}!*;"
	for _, c := range []struct {
		src           string
		p, way, point int
	}{
		{choice, 0, 0, 1}, {choice, 0, 1, 2}, {choice, 1, 0, 2}, {choice, 2, 0, 3},
		{loop, 0, 0, 1}, {loop, 1, 0, 0}, {loop, 0, 1, 2},
		{nested, 0, 0, 1}, {nested, 0, 1, 6}, {nested, 1, 0, 2}, {nested, 1, 1, 3}, {nested, 2, 0, 3}, {nested, 3, 0, 0}, {nested, 3, 1, 4}, {nested, 4, 0, 5}, {nested, 5, 0, 5}, {nested, 5, 1, 0}, {nested, 6, 0, 7},
		{"@*{}", 0, 0, 0}, {"@*{}", 0, 1, 1}, {"?*{}{}", 0, 0, 1}, {"?*{}{}", 0, 1, 1},
		// The end of a first block does not lead into the second one.
		{"?*{a=1;}{b=1;}", 1, 0, 3}, {"?*{?*{}{}}{b=1;}", 1, 0, 3}, {"?*{@*{}}{b=1;}", 1, 1, 3},
	} {
		wantNext(t, c.src, c.p, c.way, c.point, api.OK)
	}
}

func TestNextWrongPointsAndWays(t *testing.T) {
	src := "a=1;!*;?*{}{}@*{}"
	for _, p := range []int{-1 << 63, -1, 4, 5, 20, 21, 1<<63 - 1} {
		wantNext(t, src, p, 0, 0, api.ErrPoint)
	}
	for _, way := range []int{-1 << 63, -1, 2, 3, 1<<63 - 1} {
		for p := 0; p < 4; p++ {
			wantNext(t, src, p, way, 0, api.ErrPoint)
		}
	}
	wantNext(t, src, 0, 1, 0, api.ErrPoint)
	wantNext(t, src, 1, 1, 0, api.ErrPoint)
	wantNext(t, "", 0, 0, 0, api.ErrPoint)
}

func TestNextOfNoProgram(t *testing.T) {
	long := strings.Repeat("!a+b<=99;", 17) + "a=-b+10;"
	for _, src := range []string{"a=1", "x", "@*{", long} {
		wantNext(t, src, 0, 0, 0, api.ErrText)
		// ErrText is named before ErrPoint.
		wantNext(t, src, -1, 7, 0, api.ErrText)
	}
}
