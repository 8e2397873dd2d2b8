package witness_test

import (
	"slices"
	"testing"

	"witness/api"
	"witness/witness"
)

// Certificates of drawn programs. They are grown: from the beginning on, what
// comes out of a point is joined to what is claimed at the next one.

func byPoint(all []*node) []*node {
	return slices.SortedFunc(slices.Values(all), func(n, m *node) int { return n.point - m.point })
}

// judge is what Check has to answer, told by the states of the claims, which
// have no values beyond the box.
func judge(all []*node, lists [][]int, box int) (api.Errno, int) {
	if lists[0] == nil || !has(lists[0], state{}) {
		return api.ErrEntry, 0
	}
	for _, n := range byPoint(all) {
		if lists[n.point] == nil {
			continue
		}
		states := statesOf(lists[n.point], box)
		if n.wrongIn(states) {
			return api.ErrAlarm, n.point
		}
		for way, next := range n.ways {
			after := n.after(states, way)
			if len(after) > 0 && (lists[next] == nil || !allIn(after, lists[next])) {
				return api.ErrEdge, n.point
			}
		}
	}
	return api.OK, 0
}

// growStates grows claims by their states, as far as these are in the box.
func growStates(all []*node, box int) [][]int {
	lists := make([][]int, len(all)+1)
	lists[0] = make([]int, 32)
	for grown := true; grown; {
		grown = false
		for _, n := range all {
			if lists[n.point] == nil {
				continue
			}
			states := statesOf(lists[n.point], box)
			for way, next := range n.ways {
				for _, v := range n.after(states, way) {
					if slices.Max(v[:]) > box || slices.Min(v[:]) < -box || (lists[next] != nil && has(lists[next], v)) {
						continue
					}
					grown = true
					now := formsAt(v)
					if lists[next] == nil {
						lists[next] = now[:]
					}
					for form := range now {
						lists[next][form] = max(lists[next][form], now[form])
					}
				}
			}
		}
	}
	return lists
}

// change makes one claim another one, so that the most part of a certificate stays right.
func (d *draws) change(lists [][]int, other func() []int) [][]int {
	changed := slices.Clone(lists)
	p := d.below(len(lists))
	switch d.below(4) {
	case 0:
		changed[p] = nil
	case 1:
		changed[p] = other()
	default:
		if lists[p] != nil {
			changed[p] = slices.Clone(lists[p])
			form := d.below(32)
			if changed[p][form] != api.NoBound {
				changed[p][form] += 2*d.below(2) - 1
			}
		}
	}
	return changed
}

func wantEachAnswer(t *testing.T, seen [9]int) {
	t.Helper()
	for _, e := range []api.Errno{api.OK, api.ErrEntry, api.ErrAlarm, api.ErrEdge} {
		if seen[e] < 200 {
			t.Errorf("only %d answers are %d", seen[e], e)
		}
	}
}

func TestCheckOfSmallClaims(t *testing.T) {
	seen := [9]int{}
	for seed := uint32(1); seed <= 1000; seed++ {
		d := draws{seed: seed}
		src, all := d.drawProgram(2)
		lists := growStates(all, 2)
		for range 8 {
			for _, o := range lists {
				// A bound that is lifted or taken away may let values out of the box.
				for form := range min(8, len(o)) {
					o[form] = min(o[form], 2)
				}
			}
			e, at := judge(all, lists, 2)
			wantCheck(t, src, lists, e, at)
			seen[e]++
			lists = d.change(lists, d.smallOctagon)
		}
		if t.Failed() {
			return
		}
	}
	wantEachAnswer(t, seen)
}

// inReach is a list with the bounds alone that a certificate can tell.
func inReach(o []int) []int {
	list := slices.Clone(o)
	for form, n := range list {
		if n > 4000 || n < -4000 {
			list[form] = api.NoBound
		}
	}
	return list
}

// growCalls grows claims by the calls for octagons. A bound that is still
// lifted after some rounds is taken away.
func growCalls(src string, all []*node) [][]int {
	lists := make([][]int, len(all)+1)
	lists[0] = make([]int, 32)
	grown := true
	for round := 0; grown; round++ {
		grown = false
		for _, n := range all {
			if lists[n.point] == nil {
				continue
			}
			for way, next := range n.ways {
				after, _ := witness.Post(src, n.point, way, lists[n.point])
				if after == nil {
					continue
				}
				joined := inReach(after)
				if lists[next] != nil {
					joined, _ = witness.Join(lists[next], inReach(after))
					joined = inReach(joined)
				}
				if same(joined, lists[next]) {
					continue
				}
				grown = true
				for form := range joined {
					if round > 30 && (lists[next] == nil || joined[form] > lists[next][form]) {
						joined[form] = api.NoBound
					}
				}
				lists[next] = joined
			}
		}
	}
	return lists
}

// judgeByCalls is what Check has to answer, told by the calls for octagons.
func judgeByCalls(src string, all []*node, lists [][]int) (api.Errno, int) {
	if lists[0] == nil || slices.Min(lists[0]) < 0 {
		return api.ErrEntry, 0
	}
	for p := range all {
		if lists[p] == nil {
			continue
		}
		if safe, _ := witness.Safe(src, p, lists[p]); !safe {
			return api.ErrAlarm, p
		}
		for way := range 2 {
			next, e := witness.Next(src, p, way)
			after, _ := witness.Post(src, p, way, lists[p])
			if e != api.OK || after == nil {
				continue
			}
			if lists[next] == nil {
				return api.ErrEdge, p
			}
			for form, n := range after {
				if n > lists[next][form] {
					return api.ErrEdge, p
				}
			}
		}
	}
	return api.OK, 0
}

// wantNoRunWrong runs a program with some inputs.
func wantNoRunWrong(t *testing.T, src string, d *draws) {
	t.Helper()
	for range 5 {
		inputs := []int{}
		for range d.below(60) {
			inputs = append(inputs, (d.below(5)-2)*d.below(700))
		}
		status, p, values, _ := witness.Run(src, inputs, 2000)
		if status == api.Failed || status == api.Overflow {
			t.Errorf("P12: Check of %q is OK, but a run with %v goes wrong at %d with %v", src, inputs, p, values)
		}
	}
}

func TestCheckOfGrownClaims(t *testing.T) {
	seen := [9]int{}
	loops := 0
	for seed := uint32(1); seed <= 2000; seed++ {
		d := draws{seed: seed}
		src, all := d.drawProgram(1 + 98*d.below(2))
		lists := growCalls(src, all)
		for range 6 {
			e, at := judgeByCalls(src, all, lists)
			wantCheck(t, src, lists, e, at)
			seen[e]++
			if e == api.OK {
				wantNoRunWrong(t, src, &d)
				if slices.ContainsFunc(all, func(n *node) bool { return n.kind == '@' && len(n.blocks[0]) > 0 }) {
					loops++
				}
			}
			lists = d.change(lists, func() []int { return d.someBounds(32, 2) })
		}
		if t.Failed() {
			return
		}
	}
	wantEachAnswer(t, seen)
	if loops < 100 {
		t.Errorf("only %d of the programs that are OK have a @", loops)
	}
}
