// Package octagon has octagons: sets of states told by bounds of forms.
package octagon

import "witness/api"

// The sides are the variables with a sign: side 2v is variable v, side 2v+1
// the same with a minus. So every form of two variables is a sum of two sides,
// and a form of one variable is half the sum of a side with itself: all bounds
// are bounds of such sums, and one rule does for them all.
const sides = 2 * api.Vars

// An Octagon always has the sharpest bounds: each of its sums is the greatest
// one of a state. (Those of an empty one mean nothing.)
type Octagon struct {
	Empty bool
	sums  [sides][sides]int // NoBound, if there is no greatest; the two sides may stand in either order
}

// The two sides of each form.
var firstSide = [api.Bounds]int{
	0, 1, 2, 3, 4, 5, 6, 7,
	0, 0, 1, 1, // a and b
	0, 0, 1, 1, // a and c
	0, 0, 1, 1, // a and d
	2, 2, 3, 3, // b and c
	2, 2, 3, 3, // b and d
	4, 4, 5, 5, // c and d
}

var secondSide = [api.Bounds]int{
	0, 1, 2, 3, 4, 5, 6, 7,
	2, 3, 2, 3, // a and b
	4, 5, 4, 5, // a and c
	6, 7, 6, 7, // a and d
	4, 5, 4, 5, // b and c
	6, 7, 6, 7, // b and d
	6, 7, 6, 7, // c and d
}

// IsList tells whether a list is one of the bounds of an octagon.
func IsList(list []int) bool {
	if len(list) != api.Bounds {
		return false
	}
	for _, bound := range list {
		if !isBound(bound) {
			return false
		}
	}
	return true
}

// Read makes an octagon of a list of bounds, or answers ErrBound. The sums that
// no form tells are those of a side and its opposite: they are 0 from the start.
func Read(list []int) (Octagon, api.Errno) {
	if !IsList(list) {
		return Octagon{}, api.ErrBound
	}
	o := Octagon{}
	for form, bound := range list {
		o.setBound(form, bound)
	}
	o.sharpen()
	return o, api.OK
}

// Origin has one state: that with all variables 0. There every sum is 0.
func Origin() Octagon {
	return Octagon{}
}

func isBound(n int) bool {
	return n == api.NoBound || (n >= -api.MaxBound && n <= api.MaxBound)
}

// List tells the bounds of the forms; nil, if there are no states.
func (o Octagon) List() []int {
	if o.Empty {
		return nil
	}
	list := make([]int, 0, api.Bounds)
	for form := 0; form < api.Bounds; form++ {
		list = append(list, o.bound(form))
	}
	return list
}

// Within tells whether every state of o is one of p.
func (o Octagon) Within(p Octagon) bool {
	if o.Empty || p.Empty {
		return o.Empty
	}
	for i := 0; i < sides; i++ {
		for j := 0; j < sides; j++ {
			if o.sums[i][j] > p.sums[i][j] {
				return false
			}
		}
	}
	return true
}

// Join is the least octagon that has the states of both. The greater of two
// greatest sums is the greatest of all, so its bounds are sharp again.
func (o Octagon) Join(p Octagon) Octagon {
	if o.Empty {
		return p
	}
	if p.Empty {
		return o
	}
	for i := 0; i < sides; i++ {
		for j := 0; j < sides; j++ {
			if p.sums[i][j] > o.sums[i][j] {
				o.sums[i][j] = p.sums[i][j]
			}
		}
	}
	return o
}

func (o Octagon) bound(form int) int {
	if form < 0 || form >= api.Bounds {
		return api.NoBound
	}
	return o.most(firstSide[form], secondSide[form])
}

func (o *Octagon) setBound(form int, n int) {
	if form < 0 || form >= api.Bounds {
		return
	}
	o.limit(firstSide[form], secondSide[form], n)
}

// most is the bound of a form that has two sides, or has one, which then is told twice.
func (o Octagon) most(i int, j int) int {
	if i < 0 || i >= sides || j < 0 || j >= sides {
		return api.NoBound
	}
	n := o.sums[i][j]
	if i == j && n != api.NoBound {
		return n / 2
	}
	return n
}

// limit sets what most tells. It leaves the other bounds as they are.
func (o *Octagon) limit(i int, j int, n int) {
	if i < 0 || i >= sides || j < 0 || j >= sides {
		return
	}
	if i == j && n != api.NoBound {
		n = 2 * n
	}
	o.sums[i][j] = n
	o.sums[j][i] = n
}

// opposite is the side of the same variable with the other sign.
func opposite(side int) int {
	return side ^ 1
}

// plus adds two bounds; there is none for the whole if there is none for a part.
func plus(m int, n int) int {
	if m == api.NoBound || n == api.NoBound {
		return api.NoBound
	}
	return m + n
}
