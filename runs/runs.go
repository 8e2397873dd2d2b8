// Package runs runs programs step by step.
package runs

import (
	"witness/api"
	"witness/program"
)

// A machine is one run: how it stands, and what of the inputs is used up.
type machine struct {
	program program.Program
	inputs  []int
	used    int
	status  int
	point   int
	values  [api.Vars]int
}

// Run does some steps of a program. It answers how the run stands then, the point and the values.
func Run(p program.Program, inputs []int, steps int) (int, int, []int) {
	m := machine{program: p, inputs: inputs, status: api.Running}
	m.enter(0)
	for i := 0; i < steps && i < api.MaxSteps && m.status == api.Running; i++ {
		m.step()
	}
	values := make([]int, 0, api.Vars)
	for _, v := range m.values {
		values = append(values, v)
	}
	return m.status, m.point, values
}

// enter goes to a point. The end halts the run at once: it takes no step.
func (m *machine) enter(point int) {
	m.point = point
	if point == m.program.End() {
		m.status = api.Halted
	}
}

func (m *machine) step() {
	s, err := m.program.At(m.point)
	if err != api.OK {
		return
	}
	switch s.Kind {
	case program.Assign:
		m.assign(s)
	case program.Assert:
		m.assert(s)
	default:
		m.branch(s)
	}
}

func (m *machine) assign(s program.Statement) {
	value := m.value(s)
	if value > api.MaxValue || value < -api.MaxValue {
		m.status = api.Overflow
		return
	}
	if s.Target >= 0 && s.Target < api.Vars {
		m.values[s.Target] = value
	}
	m.leave(0)
}

func (m *machine) assert(s program.Statement) {
	if !m.holds(s) {
		m.status = api.Failed
		return
	}
	m.leave(0)
}

func (m *machine) branch(s program.Statement) {
	way := 1
	if m.holds(s) {
		way = 0
	}
	m.leave(way)
}

func (m *machine) leave(way int) {
	next, err := m.program.Next(m.point, way)
	if err == api.OK {
		m.enter(next)
	}
}

func (m *machine) value(s program.Statement) int {
	if s.Any {
		n := m.input()
		return clamp(n)
	}
	return s.Sum(m.values) + s.Number
}

func (m *machine) holds(s program.Statement) bool {
	if s.Any {
		return m.input() != 0
	}
	return s.Sum(m.values) <= s.Number
}

// input is the next input; behind the last one it is 0.
func (m *machine) input() int {
	if m.used < 0 || m.used >= len(m.inputs) {
		return 0
	}
	n := m.inputs[m.used]
	m.used++
	return n
}

func clamp(n int) int {
	if n > api.MaxValue {
		return api.MaxValue
	}
	if n < -api.MaxValue {
		return -api.MaxValue
	}
	return n
}
