package witness_test

import (
	"slices"
	"testing"

	"witness/api"
)

// Statements made as trees are done here to the states of octagons one by one.

func (n *node) sumAt(v state) int {
	sum := 0
	for x, sign := range n.signs {
		sum += sign * v[x]
	}
	return sum
}

// after are the states that a statement goes on with by a way. Of the values
// that * may be, those are enough that are the greatest and the least.
func (n *node) after(states []state, way int) []state {
	list := []state{}
	for _, v := range states {
		if n.kind != '=' {
			if n.any || (n.sumAt(v) <= n.number) == (way == 0) {
				list = append(list, v)
			}
			continue
		}
		values := []int{n.sumAt(v) + n.number}
		if n.any {
			values = []int{-999, 999}
		}
		for _, value := range values {
			v[n.target] = value
			list = append(list, v)
		}
	}
	return list
}

// wrongIn tells whether a statement goes wrong in one of some states.
func (n *node) wrongIn(states []state) bool {
	return slices.ContainsFunc(states, func(v state) bool {
		value := n.sumAt(v) + n.number
		switch n.kind {
		case '=':
			return !n.any && (value > 999 || value < -999)
		case '!':
			return n.any || n.sumAt(v) > n.number
		}
		return false
	})
}

// directions are the moves that lead out of no state of o, however often they
// are made. Those of one step or none in each variable are enough: what holds
// an octagon's endless edges are forms that stay the same along them.
func directions(o []int) []state {
	cone := slices.Clone(o)
	for form, n := range cone {
		if n != api.NoBound {
			cone[form] = 0
		}
	}
	return statesOf(cone, 1)
}

// afterDirections are the directions in which the states of after have no end.
func (n *node) afterDirections(list []state, way int) []state {
	still := *n
	still.number = 0
	if n.kind == '=' && n.any {
		still.any, still.signs = false, [api.Vars]int{}
	}
	if n.kind != '=' && way == 1 {
		for v := range still.signs {
			still.signs[v] *= -1
		}
	}
	return still.after(list, 0)
}

// greatestAlong is what forms come to at most in some states, and all states beyond them in some directions.
func greatestAlong(states, along []state) []int {
	list := greatest(states, api.NoBound)
	if list == nil {
		return nil
	}
	for _, v := range along {
		for form, n := range formsAt(v) {
			if n > 0 {
				list[form] = api.NoBound
			}
		}
	}
	return list
}

func allNodes(list []*node) []*node {
	all := slices.Clone(list)
	for _, n := range list {
		for _, b := range n.blocks {
			all = append(all, allNodes(b)...)
		}
	}
	return all
}

// drawProgram is a program whose text is not too long, with numbers from -most to most.
func (d *draws) drawProgram(most int) (string, []*node) {
	for {
		d.count = 0
		list := d.block(0)
		all := allNodes(list)
		for _, n := range all {
			n.number = d.below(2*most+1) - most
		}
		src := blockText(list)
		if len(all) > 0 && len(src) <= api.MaxText {
			setWays(list, d.count)
			return src, all
		}
	}
}

// tally counts how often something was seen, so that a test does not pass for having seen nothing.
type tally map[string]int

func (seen tally) add(n *node, what bool) {
	text := string(n.kind)
	if n.any {
		text += "*"
	}
	if what {
		text += " yes"
	}
	seen[text]++
}

func (seen tally) wantAll(t *testing.T, texts ...string) {
	t.Helper()
	for _, text := range texts {
		if seen[text] < 20 {
			t.Errorf("only %d were %q", seen[text], text)
		}
	}
}

func TestPostAndSafeOfSmallOctagons(t *testing.T) {
	empty, safe := tally{}, tally{}
	for seed := uint32(1); seed <= 1500; seed++ {
		d := draws{seed: seed}
		src, all := d.drawProgram(3)
		o := d.smallOctagon()
		states := statesOf(o, 2)
		for _, n := range all {
			for way := range n.ways {
				want := greatest(n.after(states, way), api.NoBound)
				wantPost(t, src, n.point, way, o, want)
				empty.add(n, want == nil)
			}
			wantSafe(t, src, n.point, o, !n.wrongIn(states))
			safe.add(n, !n.wrongIn(states))
		}
		if t.Failed() {
			return
		}
	}
	empty.wantAll(t, "=", "=*", "!", "!*", "?", "?*", "@", "@*", "= yes", "=* yes", "! yes", "!* yes", "? yes", "?* yes", "@ yes", "@* yes")
	safe.wantAll(t, "= yes", "=* yes", "!", "! yes", "!*", "!* yes", "? yes", "@ yes")
}

// With bounds and numbers as small as these, a form that has a greatest number has it in the box.
func TestPostAndSafeOfEndlessOctagons(t *testing.T) {
	empty, safe := tally{}, tally{}
	for seed := uint32(1); seed <= 300; seed++ {
		d := draws{seed: seed}
		src, all := d.drawProgram(1)
		o := oct("")
		often := 3 + d.below(6)
		for form := range o {
			if d.below(often) == 0 {
				o[form] = d.below(3) - 1
			}
		}
		states := statesOf(o, 7)
		along := directions(o)
		if len(states) == 0 {
			along = nil
		}
		wantClose(t, o, greatestAlong(states, along))
		for _, n := range all[:min(5, len(all))] {
			for way := range n.ways {
				after := n.after(states, way)
				want := greatestAlong(after, n.afterDirections(along, way))
				wantPost(t, src, n.point, way, o, want)
				empty.add(n, want == nil)
			}
			still := *n
			still.number = 0
			far := slices.Clone(along)
			for i := range far {
				for v := range far[i] {
					far[i][v] *= 1000
				}
			}
			right := !n.wrongIn(states) && !still.wrongIn(far)
			wantSafe(t, src, n.point, o, right)
			safe.add(n, right)
		}
		if t.Failed() {
			return
		}
	}
	empty.wantAll(t, "=", "=*", "!", "!*", "?", "?*", "@", "@*", "! yes", "? yes", "@ yes")
	safe.wantAll(t, "=", "= yes", "=* yes", "!", "! yes", "!*")
}

func movedStates(states []state, by state) []state {
	list := []state{}
	for _, v := range states {
		for x := range v {
			v[x] += by[x]
		}
		list = append(list, v)
	}
	return list
}

// The octagons lie where the value of an assignment comes near to 999 or
// -999, or the form of a condition near to its number.
func TestPostAndSafeOfMovedOctagons(t *testing.T) {
	safe := tally{}
	for seed := uint32(1); seed <= 3000; seed++ {
		d := draws{seed: seed}
		src, all := d.drawProgram(99)
		o := d.smallOctagon()
		small := statesOf(o, 2)
		for _, n := range all[:min(4, len(all))] {
			by := state{}
			for v := range by {
				by[v] = d.below(3981) - 1990
			}
			value := n.number
			if n.kind == '=' {
				value = (999+d.below(5)-2)*(2*d.below(2)-1) - n.number
			}
			for v, sign := range n.signs {
				if sign != 0 && n.sumAt(by) != value {
					by[v] = max(-1990, min(1990, by[v]+sign*(value-n.sumAt(by))))
				}
			}
			states := movedStates(small, by)
			at := moved(o, by)
			for way := range n.ways {
				wantPost(t, src, n.point, way, at, greatest(n.after(states, way), api.NoBound))
			}
			wantSafe(t, src, n.point, at, !n.wrongIn(states))
			safe.add(n, !n.wrongIn(states))
		}
		if t.Failed() {
			return
		}
	}
	safe.wantAll(t, "=", "= yes", "=* yes", "!", "! yes", "!*", "? yes", "@ yes")
}
