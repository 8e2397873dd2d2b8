// Package certificate has certificates: as bytes, and whether they show that no run of a program goes wrong.
package certificate

import (
	"witness/api"
	"witness/octagon"
)

// A certificate has a part for each point, and the end is a point too.
const maxPoints = api.MaxStmts + 1

// The first byte of the part of a point.
const (
	nothing   = 0 // nothing comes here
	something = 1
)

// A bound is told by two bytes, which have no sign: so it is lifted before.
const (
	lift       = api.MaxBound
	highest    = api.MaxBound + lift
	byteValues = 256
)

// Encode writes a certificate. It has a list of bounds for each point; nil, where nothing comes.
func Encode(lists [][]int) (string, api.Errno) {
	if len(lists) == 0 || len(lists) > maxPoints {
		return "", api.ErrCert
	}
	cert := []byte{byte(len(lists))}
	for _, list := range lists {
		if list == nil {
			cert = append(cert, nothing)
			continue
		}
		if !octagon.IsList(list) {
			return "", api.ErrBound
		}
		part := toldBounds(list)
		cert = append(cert, something)
		cert = append(cert, part...)
	}
	return string(cert), api.OK
}

// toldBounds are the bytes of the bounds of a list, and in front how many there are.
func toldBounds(list []int) []byte {
	part := []byte{byte(countTold(list))}
	for form, bound := range list {
		if bound == api.NoBound {
			continue
		}
		lifted := bound + lift
		part = append(part, byte(form), byte(lifted/byteValues), byte(lifted%byteValues))
	}
	return part
}

func countTold(list []int) int {
	told := 0
	for _, bound := range list {
		if bound != api.NoBound {
			told++
		}
	}
	return told
}
