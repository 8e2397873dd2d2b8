package witness_test

import (
	"slices"
	"testing"

	"witness/api"
)

// The octagons of these tests are held against their states, which are gone
// through one by one.

type state [api.Vars]int

// formsAt is what the forms come to at a state, in the order of their numbers.
func formsAt(v state) [api.Bounds]int {
	list := [api.Bounds]int{v[0], -v[0], v[1], -v[1], v[2], -v[2], v[3], -v[3]}
	form := 8
	for x := range v {
		for y := x + 1; y < len(v); y++ {
			copy(list[form:], []int{v[x] + v[y], v[x] - v[y], -v[x] + v[y], -v[x] - v[y]})
			form += 4
		}
	}
	return list
}

func has(o []int, v state) bool {
	for form, n := range formsAt(v) {
		if n > o[form] {
			return false
		}
	}
	return true
}

func allIn(states []state, o []int) bool {
	return !slices.ContainsFunc(states, func(v state) bool { return !has(o, v) })
}

// statesOf are the states of o whose values are from -box to box. It drops a
// and b early where they are enough to say that no state has them.
func statesOf(o []int, box int) []state {
	list := []state{}
	for a := -box; a <= box; a++ {
		for b := -box; b <= box; b++ {
			if a > o[0] || -a > o[1] || b > o[2] || -b > o[3] || a+b > o[8] || a-b > o[9] || -a+b > o[10] || -a-b > o[11] {
				continue
			}
			for c := -box; c <= box; c++ {
				for d := -box; d <= box; d++ {
					v := state{a, b, c, d}
					if c <= o[4] && -c <= o[5] && has(o, v) {
						list = append(list, v)
					}
				}
			}
		}
	}
	return list
}

// greatest is what the forms come to at most in some states. A form that
// reaches far counts as one without a greatest number.
func greatest(states []state, far int) []int {
	if len(states) == 0 {
		return nil
	}
	first := formsAt(states[0])
	list := first[:]
	for _, v := range states {
		for form, n := range formsAt(v) {
			list[form] = max(list[form], n)
		}
	}
	for form, n := range list {
		if n >= far {
			list[form] = api.NoBound
		}
	}
	return list
}

// smallOctagon has values from -2 to 2 alone, and some bounds more.
func (d *draws) smallOctagon() []int {
	o := d.someBounds(32, 2)
	for form := range 8 {
		o[form] = min(o[form], 2)
	}
	return o
}

func (d *draws) someBounds(forms int, least int) []int {
	o := oct("")
	often := least + d.below(10)
	for form := range forms {
		if d.below(often) == 0 {
			o[form] = d.below(6) - 2
		}
	}
	return o
}

func TestCloseOfSmallOctagons(t *testing.T) {
	empty := 0
	for seed := uint32(1); seed <= 2000; seed++ {
		d := draws{seed: seed}
		o := d.smallOctagon()
		want := greatest(statesOf(o, 2), api.NoBound)
		wantClose(t, o, want)
		if want == nil {
			empty++
		}
		if t.Failed() {
			return
		}
	}
	if empty < 100 || empty > 1900 {
		t.Errorf("%d of the octagons are empty", empty)
	}
}

// The bounds that are told are so small that no form that has a greatest
// number goes beyond 8, and one that has none comes to 9 within the box.
func TestEndlessOctagons(t *testing.T) {
	endless, sharp := 0, 0
	p := oct("")
	outer := statesOf(p, 9)
	for seed := uint32(1); seed <= 150; seed++ {
		d := draws{seed: seed}
		o := oct("")
		for form := range o {
			if d.below(4) == 0 {
				o[form] = d.below(3) - 1
			}
		}
		inner := statesOf(o, 16)
		want := greatest(inner, 9)
		wantClose(t, o, want)
		wantWithin(t, o, p, allIn(inner, p))
		wantJoin(t, o, p, greatest(slices.Concat(inner, outer), 9))
		for form, n := range want {
			if n == api.NoBound {
				endless++
			} else if n < o[form] {
				sharp++
			}
		}
		if t.Failed() {
			return
		}
		p, outer = o, inner
	}
	if endless < 100 || sharp < 100 {
		t.Errorf("only %d bounds are none, and %d sharper", endless, sharp)
	}
}

func TestWithinAndJoinOfSmallOctagons(t *testing.T) {
	seen := [2]int{}
	for seed := uint32(1); seed <= 3000; seed++ {
		d := draws{seed: seed}
		o, p := d.smallOctagon(), d.someBounds(32, 8)
		if seed%3 == 0 {
			p = d.smallOctagon()
		}
		inner, outer := statesOf(o, 2), statesOf(p, 2)
		in := allIn(inner, p)
		wantWithin(t, o, p, in)
		if in {
			seen[1]++
		} else {
			seen[0]++
		}
		if seed%3 == 0 {
			wantJoin(t, o, p, greatest(slices.Concat(inner, outer), api.NoBound))
		}
		if t.Failed() {
			return
		}
	}
	if seen[0] < 100 || seen[1] < 100 {
		t.Errorf("within are %d, not within %d", seen[1], seen[0])
	}
}

// moved is an octagon with its states moved; its bounds move with the forms.
func moved(o []int, by state) []int {
	if o == nil {
		return nil
	}
	list := slices.Clone(o)
	for form, n := range formsAt(by) {
		if list[form] != api.NoBound {
			list[form] += n
		}
	}
	return list
}

func TestMovedOctagons(t *testing.T) {
	for seed := uint32(1); seed <= 1000; seed++ {
		d := draws{seed: seed}
		o, p := d.smallOctagon(), d.smallOctagon()
		by := state{}
		for v := range by {
			by[v] = d.below(3981) - 1990
		}
		if seed%4 == 0 {
			by = state{1997, -1997, 1997, -1997}
		}
		inner, outer := statesOf(o, 2), statesOf(p, 2)
		wantClose(t, moved(o, by), moved(greatest(inner, api.NoBound), by))
		wantJoin(t, moved(o, by), moved(p, by), moved(greatest(slices.Concat(inner, outer), api.NoBound), by))
		wantWithin(t, moved(o, by), moved(p, by), allIn(inner, p))
		if t.Failed() {
			return
		}
	}
}
