// Package witness: a small language, its runs, octagons of states, and certificates that no run goes wrong: see DOC.md.
package witness

import (
	"witness/api"
	"witness/certificate"
	"witness/effect"
	"witness/octagon"
	"witness/program"
	"witness/runs"
	"witness/search"
)

// Scan tells how many points a program has (P3).
func Scan(src string) (int, api.Errno, int) {
	p, err, at := program.Read(src)
	if err != api.OK {
		return 0, err, at
	}
	return p.End() + 1, api.OK, 0
}

// Next tells where a way out of a point leads (P4).
func Next(src string, p int, way int) (int, api.Errno) {
	text, err, _ := program.Read(src)
	if err != api.OK {
		return 0, err
	}
	return text.Next(p, way)
}

// Run runs a program for some steps (P5).
func Run(src string, inputs []int, steps int) (int, int, []int, api.Errno) {
	p, err, _ := program.Read(src)
	if err != api.OK {
		return 0, 0, nil, err
	}
	status, point, values := runs.Run(p, inputs, steps)
	return status, point, values, api.OK
}

// Close makes the bounds of an octagon as sharp as they can be (P7).
func Close(o []int) ([]int, api.Errno) {
	sharp, err := octagon.Read(o)
	if err != api.OK {
		return nil, err
	}
	return sharp.List(), api.OK
}

// Within tells whether one octagon lies in another (P8).
func Within(o []int, p []int) (bool, api.Errno) {
	inner, outer, err := readBoth(o, p)
	if err != api.OK {
		return false, err
	}
	return inner.Within(outer), api.OK
}

// Join is the least octagon that has two (P8).
func Join(o []int, p []int) ([]int, api.Errno) {
	first, second, err := readBoth(o, p)
	if err != api.OK {
		return nil, err
	}
	both := first.Join(second)
	return both.List(), api.OK
}

func readBoth(o []int, p []int) (octagon.Octagon, octagon.Octagon, api.Errno) {
	first, err := octagon.Read(o)
	if err != api.OK {
		return octagon.Octagon{}, octagon.Octagon{}, err
	}
	second, err := octagon.Read(p)
	return first, second, err
}

// Post is the least octagon of what comes out of a point by a way (P9).
func Post(src string, p int, way int, o []int) ([]int, api.Errno) {
	text, err, _ := program.Read(src)
	if err != api.OK {
		return nil, err
	}
	statement, err := text.WithWay(p, way)
	if err != api.OK {
		return nil, err
	}
	before, err := octagon.Read(o)
	if err != api.OK {
		return nil, err
	}
	after := effect.Post(statement, way, before)
	return after.List(), api.OK
}

// Safe tells whether nothing goes wrong at a point (P10).
func Safe(src string, p int, o []int) (bool, api.Errno) {
	text, err, _ := program.Read(src)
	if err != api.OK {
		return false, err
	}
	statement, err := text.At(p)
	if err != api.OK {
		return false, err
	}
	before, err := octagon.Read(o)
	if err != api.OK {
		return false, err
	}
	return effect.Safe(statement, before), api.OK
}

// Encode writes a certificate (P11).
func Encode(l [][]int) (string, api.Errno) {
	return certificate.Encode(l)
}

// Decode reads a certificate (P11).
func Decode(cert string) ([][]int, api.Errno) {
	return certificate.Decode(cert)
}

// Check tells whether a certificate shows that no run of a program goes wrong (P12).
func Check(src string, cert string) (api.Errno, int) {
	p, err, at := program.Read(src)
	if err != api.OK {
		return err, at
	}
	return certificate.Check(p, cert)
}

// Analyze looks for a certificate (P13).
func Analyze(src string) (string, api.Errno) {
	p, err, _ := program.Read(src)
	if err != api.OK {
		return "", err
	}
	return search.Find(p)
}
