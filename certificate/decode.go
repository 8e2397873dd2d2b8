package certificate

import "witness/api"

// Decode reads what Encode writes, and nothing else.
func Decode(cert string) ([][]int, api.Errno) {
	r := reader{cert: cert}
	points := r.number(1, maxPoints)
	lists := make([][]int, 0, maxPoints)
	for i := 0; i < points && !r.wrong; i++ {
		list := r.point()
		lists = append(lists, list)
	}
	if r.wrong || r.at != len(cert) {
		return nil, api.ErrCert
	}
	return lists, api.OK
}

// A reader goes through the bytes of a certificate. What it answers once
// something was wrong means nothing, so that is asked at the end alone.
type reader struct {
	cert  string
	at    int
	wrong bool
}

// peek is the byte that comes next, or one that is none.
func (r *reader) peek() int {
	if r.at < 0 || r.at >= len(r.cert) {
		return -1
	}
	return int(r.cert[r.at])
}

// number takes a byte, which has to be from low to high.
func (r *reader) number(low int, high int) int {
	n := r.peek()
	if n < low || n > high {
		r.wrong = true
		return 0
	}
	r.at++
	return n
}

func (r *reader) point() []int {
	comes := r.number(nothing, something)
	if comes == nothing {
		return nil
	}
	return r.bounds()
}

// bounds asks for the forms from the first to the last. So one that is out of
// order, told twice or no form is never asked for, and there are told ones left.
func (r *reader) bounds() []int {
	told := r.number(0, api.Bounds)
	list := make([]int, 0, api.Bounds)
	for form := 0; form < api.Bounds; form++ {
		bound := api.NoBound
		if told > 0 && r.peek() == form {
			r.at++
			bound = r.bound()
			told--
		}
		list = append(list, bound)
	}
	if told > 0 {
		r.wrong = true
	}
	return list
}

func (r *reader) bound() int {
	high := r.number(0, byteValues-1)
	low := r.number(0, byteValues-1)
	lifted := high*byteValues + low
	if lifted > highest {
		r.wrong = true
	}
	return lifted - lift
}
