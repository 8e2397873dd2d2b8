package witness_test

import (
	"fmt"
	"testing"

	"witness/api"
)

// Programs as trees, with their ways and runs told by the shape of the tree
// alone, to hold the calls against.
type node struct {
	kind   byte // '=', '!', '?' or '@'
	target int
	any    bool
	signs  [api.Vars]int
	number int
	blocks [][]*node
	point  int
	ways   []int
}

// draws makes the trees: the same ones at every test.
type draws struct {
	seed  uint32
	count int
}

func (d *draws) below(n int) int {
	d.seed = d.seed*1664525 + 1013904223
	return int(d.seed>>8) % n
}

func (d *draws) block(depth int) []*node {
	list := []*node{}
	for i := d.below(4); i > 0 && d.count < api.MaxStmts; i-- {
		list = append(list, d.node(depth))
	}
	return list
}

func (d *draws) node(depth int) *node {
	kinds := "=!?@=="
	if depth == api.MaxDepth {
		kinds = "=!"
	}
	n := &node{kind: kinds[d.below(len(kinds))], point: d.count, any: d.below(4) == 0}
	d.count++
	n.target = d.below(4)
	n.number = d.below(199) - 99
	x, y := d.below(4), d.below(4)
	n.signs[x] = d.below(2)*2 - 1
	if n.kind == '=' {
		n.signs[x] *= d.below(4) / 2
	} else {
		n.signs[y] = d.below(2)*2 - 1
	}
	if n.kind == '?' || n.kind == '@' {
		n.blocks = append(n.blocks, d.block(depth+1))
	}
	if n.kind == '?' {
		n.blocks = append(n.blocks, d.block(depth+1))
	}
	return n
}

func sumText(signs [api.Vars]int) string {
	text := ""
	for v, sign := range signs {
		if sign < 0 {
			text += "-" + "abcd"[v:v+1]
		} else if sign > 0 {
			if text != "" {
				text += "+"
			}
			text += "abcd"[v : v+1]
		}
	}
	return text
}

func (n *node) text() string {
	sum := sumText(n.signs)
	condition := fmt.Sprintf("%s<=%d", sum, n.number)
	value := fmt.Sprintf("%d", n.number)
	if sum != "" {
		value = fmt.Sprintf("%s%+d", sum, n.number)
	}
	if n.any {
		condition, value = "*", "*"
	}
	switch n.kind {
	case '=':
		return "abcd"[n.target:n.target+1] + "=" + value + ";"
	case '!':
		return "!" + condition + ";"
	}
	text := string(n.kind) + condition
	for _, b := range n.blocks {
		text += "{" + blockText(b) + "}"
	}
	return text
}

func blockText(list []*node) string {
	text := ""
	for _, n := range list {
		text += n.text()
	}
	return text
}

// setWays tells the ways of a block behind which after comes.
func setWays(list []*node, after int) {
	for i, n := range list {
		follows := after
		if i+1 < len(list) {
			follows = list[i+1].point
		}
		back := follows
		if n.kind == '@' {
			back = n.point
		}
		for _, b := range n.blocks {
			setWays(b, back)
			if len(b) == 0 {
				n.ways = append(n.ways, back)
			} else {
				n.ways = append(n.ways, b[0].point)
			}
		}
		if n.kind != '?' {
			n.ways = append(n.ways, follows)
		}
	}
}

// walk runs a tree as blocks within blocks, without points but to say where it stopped.
type walk struct {
	outcome
	inputs []int
	left   int
}

func (w *walk) input() int {
	if len(w.inputs) == 0 {
		return 0
	}
	n := w.inputs[0]
	w.inputs = w.inputs[1:]
	return n
}

func (w *walk) sum(n *node) int {
	sum := 0
	for v, sign := range n.signs {
		sum += sign * w.values[v]
	}
	return sum
}

func (w *walk) holds(n *node) bool {
	if n.any {
		return w.input() != 0
	}
	return w.sum(n) <= n.number
}

func (w *walk) block(list []*node) bool {
	for _, n := range list {
		if !w.node(n) {
			return false
		}
	}
	return true
}

func (w *walk) node(n *node) bool {
	for {
		w.point = n.point
		if w.left <= 0 {
			return false
		}
		w.left--
		if n.kind == '=' {
			return w.assign(n)
		}
		holds := w.holds(n)
		if n.kind == '!' && !holds {
			w.status = api.Failed
			return false
		}
		if n.kind == '?' && !holds {
			return w.block(n.blocks[1])
		}
		if n.kind == '?' {
			return w.block(n.blocks[0])
		}
		if n.kind == '!' || !holds {
			return true
		}
		if !w.block(n.blocks[0]) {
			return false
		}
	}
}

func (w *walk) assign(n *node) bool {
	value := w.sum(n) + n.number
	if n.any {
		value = max(-999, min(999, w.input()))
	}
	if value > 999 || value < -999 {
		w.status = api.Overflow
		return false
	}
	w.values[n.target] = value
	return true
}

func walkTree(list []*node, count int, inputs []int, steps int) outcome {
	w := walk{outcome: outcome{status: api.Running}, inputs: inputs, left: min(steps, 2000)}
	if w.block(list) {
		w.status = api.Halted
		w.point = count
	}
	return w.outcome
}

func checkWays(t *testing.T, src string, list []*node) {
	t.Helper()
	for _, n := range list {
		for way := -1; way < 4; way++ {
			if way < 0 || way >= len(n.ways) {
				wantNext(t, src, n.point, way, 0, api.ErrPoint)
			} else {
				wantNext(t, src, n.point, way, n.ways[way], api.OK)
			}
		}
		for _, b := range n.blocks {
			checkWays(t, src, b)
		}
	}
}

func TestProgramsMadeOfTrees(t *testing.T) {
	seen := [4]int{}
	for seed := uint32(1); seed <= 20000; seed++ {
		d := draws{seed: seed}
		list := d.block(0)
		src := blockText(list)
		if len(src) > api.MaxText {
			continue
		}
		setWays(list, d.count)
		wantScan(t, src, d.count+1, api.OK, 0)
		checkWays(t, src, list)
		inputs := []int{}
		for i := d.below(30); i > 0; i-- {
			inputs = append(inputs, (d.below(5)-2)*d.below(700))
		}
		for _, steps := range []int{d.below(10) - 1, d.below(100), 5000} {
			want := walkTree(list, d.count, inputs, steps)
			seen[want.status]++
			wantRun(t, src, inputs, steps, want)
		}
		if t.Failed() {
			return
		}
	}
	for status, n := range seen {
		if n < 50 {
			t.Errorf("only %d runs came to %d", n, status)
		}
	}
}
