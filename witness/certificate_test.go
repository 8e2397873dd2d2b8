package witness_test

import (
	"slices"
	"strings"
	"testing"

	"witness/api"
	"witness/witness"
)

// bytesOf are numbers as bytes.
func bytesOf(numbers ...int) string {
	text := []byte{}
	for _, n := range numbers {
		if n < 0 || n > 255 {
			panic(n)
		}
		text = append(text, byte(n))
	}
	return string(text)
}

// claims are lists of bounds that are told like those of oct, or by "nil".
func claims(told ...string) [][]int {
	lists := [][]int{}
	for _, text := range told {
		if text == "nil" {
			lists = append(lists, nil)
		} else {
			lists = append(lists, oct(text))
		}
	}
	return lists
}

func tellAll(lists [][]int) string {
	told := []string{}
	for _, o := range lists {
		told = append(told, "("+tell(o)+")")
	}
	return strings.Join(told, " ")
}

func sameLists(l, m [][]int) bool {
	return (l == nil) == (m == nil) && slices.EqualFunc(l, m, same)
}

func wantEncode(t *testing.T, l [][]int, want string) {
	t.Helper()
	if got, e := witness.Encode(l); got != want || e != api.OK {
		t.Errorf("P11: Encode of %.200s is %.100q, %d, want %.100q", tellAll(l), got, e, want)
	}
}

func wantDecode(t *testing.T, cert string, want [][]int) {
	t.Helper()
	if got, e := witness.Decode(cert); !sameLists(got, want) || e != api.OK {
		t.Errorf("P11: Decode(%.100q) is %.200s, %d, want %.200s", cert, tellAll(got), e, tellAll(want))
	}
}

func wantEncodeError(t *testing.T, l [][]int, want api.Errno) {
	t.Helper()
	if got, e := witness.Encode(l); got != "" || e != want {
		t.Errorf("P11: Encode of %d lists %.200s is %.100q, %d, want %d", len(l), tellAll(l), got, e, want)
	}
}

func wantNoCertificate(t *testing.T, cert string) {
	t.Helper()
	if got, e := witness.Decode(cert); got != nil || e != api.ErrCert {
		t.Errorf("P11: Decode(%.100q) is %.200s, %d, want ErrCert", cert, tellAll(got), e)
	}
}

// told is the part of a point to which something comes, written by the words of P11 alone.
func told(o []int) []int {
	part := []int{}
	count := 0
	for form, n := range o {
		if n != api.NoBound {
			count++
			part = append(part, form, (n+4000)>>8, (n+4000)&255)
		}
	}
	return append([]int{1, count}, part...)
}

func TestCertificates(t *testing.T) {
	for _, c := range []struct {
		lists [][]int
		cert  string
	}{
		{claims("nil"), bytesOf(1, 0)},
		{claims(""), bytesOf(1, 1, 0)},
		{claims("nil", "a<=3"), bytesOf(2, 0, 1, 1, 0, 15, 163)},
		{claims("a<=3", "nil"), bytesOf(2, 1, 1, 0, 15, 163, 0)},
		{claims("nil", "", "nil"), bytesOf(3, 0, 1, 0, 0)},
		// Where one bound lies against the other does not matter.
		{claims("a-c<=-1 -c-d<=7 -a<=0"), bytesOf(1, 1, 3, 1, 15, 160, 13, 15, 159, 31, 15, 167)},
		{claims("d<=-4000"), bytesOf(1, 1, 1, 6, 0, 0)},
		{claims("d<=-3999"), bytesOf(1, 1, 1, 6, 0, 1)},
		{claims("d<=-3745"), bytesOf(1, 1, 1, 6, 0, 255)},
		{claims("d<=-3744"), bytesOf(1, 1, 1, 6, 1, 0)},
		{claims("-d<=0"), bytesOf(1, 1, 1, 7, 15, 160)},
		{claims("-d<=3935"), bytesOf(1, 1, 1, 7, 30, 255)},
		{claims("-d<=3999"), bytesOf(1, 1, 1, 7, 31, 63)},
		{claims("-d<=4000"), bytesOf(1, 1, 1, 7, 31, 64)},
		// It tells the bounds as they are: not sharp, and those of one without states too.
		{claims("a<=3 b<=4 a+b<=9"), bytesOf(1, 1, 3, 0, 15, 163, 2, 15, 164, 8, 15, 169)},
		{claims("a<=3 b<=4"), bytesOf(1, 1, 2, 0, 15, 163, 2, 15, 164)},
		{claims("a<=0 -a<=-1"), bytesOf(1, 1, 2, 0, 15, 160, 1, 15, 159)},
	} {
		wantEncode(t, c.lists, c.cert)
		wantDecode(t, c.cert, c.lists)
	}
}

func TestCertificatesOfEveryFormAndBound(t *testing.T) {
	for form := range 32 {
		for n := -4000; n <= 4000; n += 1 + 37*(form%2) {
			o := oct("")
			o[form] = n
			cert := bytesOf(append([]int{1}, told(o)...)...)
			wantEncode(t, [][]int{o}, cert)
			wantDecode(t, cert, [][]int{o})
		}
		if t.Failed() {
			return
		}
	}
}

func TestCertificatesOfManyPoints(t *testing.T) {
	for points := range 300 {
		few := make([][]int, points)
		many := [][]int{}
		numbers := []int{}
		for i := range points {
			o := slices.Repeat([]int{i - 150}, 32)
			many = append(many, o)
			numbers = append(numbers, told(o)...)
		}
		if points > 0 && points <= 21 {
			wantEncode(t, few, bytesOf(points)+strings.Repeat("\x00", points))
			wantDecode(t, bytesOf(points)+strings.Repeat("\x00", points), few)
			wantEncode(t, many, bytesOf(points)+bytesOf(numbers...))
			wantDecode(t, bytesOf(points)+bytesOf(numbers...), many)
			continue
		}
		wantEncodeError(t, few, api.ErrCert)
		wantEncodeError(t, many, api.ErrCert)
		wantNoCertificate(t, bytesOf(points&255)+strings.Repeat("\x00", points))
		wantNoCertificate(t, bytesOf(points&255)+bytesOf(numbers...))
	}
	wantEncodeError(t, nil, api.ErrCert)
	wantEncodeError(t, make([][]int, 100000), api.ErrCert)
}

func TestEncodeErrors(t *testing.T) {
	wrong := [][]int{{}, {0}, make([]int, 31), make([]int, 33), slices.Repeat([]int{api.NoBound}, 31), slices.Repeat([]int{api.NoBound}, 33)}
	for _, n := range []int{4001, -4001, 61536, 65536, api.NoBound - 1, api.NoBound + 1, -api.NoBound, -1 << 63, 1<<63 - 1} {
		for form := range 32 {
			o := oct("a<=3")
			o[form] = n
			wrong = append(wrong, o)
		}
	}
	for _, o := range wrong {
		wantEncodeError(t, [][]int{o}, api.ErrBound)
		wantEncodeError(t, [][]int{nil, o}, api.ErrBound)
		wantEncodeError(t, [][]int{o, oct(""), nil}, api.ErrBound)
		wantEncodeError(t, slices.Repeat([][]int{o}, 21), api.ErrBound)
		// Too many lists is the error that is named first.
		wantEncodeError(t, slices.Repeat([][]int{o}, 22), api.ErrCert)
	}
	// The spare room is no part of a list, nor of the lists.
	wantEncode(t, [][]int{append(oct("a<=3"), 4001)[:32]}, bytesOf(1, 1, 1, 0, 15, 163))
	wantEncode(t, [][]int{nil, {4001}}[:1], bytesOf(1, 0))
	wantEncodeError(t, [][]int{nil}[:0], api.ErrCert)
}

func TestNoCertificates(t *testing.T) {
	for _, cert := range []string{
		"",
		bytesOf(0),
		bytesOf(0, 0),
		bytesOf(1),
		bytesOf(2, 0),
		bytesOf(1, 2),
		bytesOf(1, 2, 0),
		bytesOf(1, 255, 0),
		bytesOf(1, 1),
		bytesOf(1, 1, 33),
		bytesOf(1, 1, 255),
		// More than the points that were told.
		bytesOf(1, 0, 0),
		bytesOf(1, 1, 0, 0),
		bytesOf(1, 1, 1, 0, 15, 163, 0),
		bytesOf(1, 1, 1, 0, 15, 163, 2, 15, 164),
		// Fewer bounds than were told, or a part of one.
		bytesOf(1, 1, 1),
		bytesOf(1, 1, 1, 0),
		bytesOf(1, 1, 1, 0, 15),
		bytesOf(1, 1, 2, 0, 15, 163),
		bytesOf(1, 1, 2, 0, 15, 163, 2),
		bytesOf(1, 1, 2, 0, 15, 163, 2, 15),
		bytesOf(2, 1, 1, 0, 15, 163),
		bytesOf(2, 1, 2, 0, 15, 163, 0),
		// No bound.
		bytesOf(1, 1, 1, 0, 31, 65),
		bytesOf(1, 1, 1, 0, 32, 0),
		bytesOf(1, 1, 1, 0, 255, 255),
		bytesOf(1, 1, 2, 0, 31, 65, 1, 0, 0),
		// No form.
		bytesOf(1, 1, 1, 32, 15, 163),
		bytesOf(1, 1, 1, 255, 15, 163),
		bytesOf(1, 1, 2, 31, 15, 163, 32, 15, 163),
		// Not in rising order.
		bytesOf(1, 1, 2, 1, 15, 163, 0, 15, 163),
		bytesOf(1, 1, 2, 0, 15, 163, 0, 15, 163),
		bytesOf(1, 1, 2, 31, 15, 163, 31, 15, 163),
		bytesOf(1, 1, 3, 0, 15, 163, 2, 15, 163, 1, 15, 163),
	} {
		wantNoCertificate(t, cert)
	}
	whole := "\x01" + bytesOf(told(slices.Repeat([]int{4000}, 32))...)
	wantDecode(t, whole, [][]int{slices.Repeat([]int{4000}, 32)})
	for n := range whole {
		wantNoCertificate(t, whole[:n])
	}
	wantNoCertificate(t, whole+"\x00")
	wantNoCertificate(t, "\x01\x01\x21"+whole[3:]+bytesOf(32, 0, 0))
	wantNoCertificate(t, whole+strings.Repeat("\x00", 1<<20))
}

// split reads a certificate by taking it apart from the front; it tells whether it is one.
func split(cert string) bool {
	if cert == "" || cert[0] < 1 || cert[0] > 21 {
		return false
	}
	rest := []byte(cert[1:])
	for range cert[0] {
		if len(rest) == 0 || rest[0] > 1 {
			return false
		}
		if rest[0] == 0 {
			rest = rest[1:]
			continue
		}
		if len(rest) < 2 || rest[1] > 32 || len(rest) < 2+3*int(rest[1]) {
			return false
		}
		bounds := rest[2 : 2+3*int(rest[1])]
		rest = rest[2+len(bounds):]
		for i := 0; i < len(bounds); i += 3 {
			if bounds[i] > 31 || (i > 0 && bounds[i] <= bounds[i-3]) || int(bounds[i+1])*256+int(bounds[i+2]) > 8000 {
				return false
			}
		}
	}
	return len(rest) == 0
}

// wantSplit holds Decode against split; and what it reads is written again by the same bytes.
func wantSplit(t *testing.T, cert string, seen tally) {
	t.Helper()
	if !split(cert) {
		wantNoCertificate(t, cert)
		seen["none"]++
		return
	}
	seen["one"]++
	lists, e := witness.Decode(cert)
	if e != api.OK {
		t.Errorf("P11: Decode(%.100q) answers %d", cert, e)
	}
	wantEncode(t, lists, cert)
}

func (d *draws) certificate(points int) string {
	numbers := []int{points}
	for range points {
		if d.below(4) == 0 {
			numbers = append(numbers, 0)
			continue
		}
		o := oct("")
		often := 1 + d.below(30)
		for form := range o {
			if d.below(often) == 0 {
				o[form] = d.below(8001) - 4000
			}
		}
		numbers = append(numbers, told(o)...)
	}
	return bytesOf(numbers...)
}

func TestChangedCertificates(t *testing.T) {
	seen := tally{}
	for seed := uint32(1); seed <= 400; seed++ {
		d := draws{seed: seed}
		cert := d.certificate(1 + d.below(3))
		wantSplit(t, cert, seen)
		for at := range cert {
			wantSplit(t, cert[:at]+cert[at+1:], seen)
			wantSplit(t, cert[:at], seen)
			for _, n := range []int{0, 1, 2, 31, 32, 33, 255, int(cert[at] + 1), int(cert[at] - 1), d.below(256)} {
				wantSplit(t, cert[:at]+bytesOf(n)+cert[at+1:], seen)
				wantSplit(t, cert[:at]+bytesOf(n)+cert[at:], seen)
			}
		}
		if t.Failed() {
			return
		}
	}
	seen.wantAll(t, "none", "one")
}

// Every text of a few bytes.
func TestShortCertificates(t *testing.T) {
	seen := tally{}
	letters := []int{0, 1, 2, 3, 21, 22, 31, 32, 33, 255}
	texts := []string{""}
	for range 6 {
		longer := []string{}
		for _, text := range texts {
			wantSplit(t, text, seen)
			if len(text) > 2 && text[0] > 3 {
				continue
			}
			for _, n := range letters {
				longer = append(longer, text+bytesOf(n))
			}
		}
		texts = longer
		if t.Failed() {
			return
		}
	}
	for _, text := range texts {
		wantSplit(t, text, seen)
	}
	seen.wantAll(t, "none", "one")
}
