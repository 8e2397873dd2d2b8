package witness_test

import (
	"slices"
	"strings"
	"testing"

	"witness/api"
	"witness/witness"
)

var oddNumbers = []int{-1 << 63, -4001, -1, 0, 1, 2, 20, 21, 2000, 2001, 1<<63 - 1}

func oddTexts() []string {
	list := []string{"", "\x00", "\xff", "a", "a=1", "a=1;", "!*;", "@*{}", "?*{}{}", "@a<=0{}", "@*{a=a+99;}", strings.Repeat("@*{", 54), strings.Repeat("{", 1000), strings.Repeat("a=1;", 20), strings.Repeat("?", 1<<20)}
	for i := 0; i < 256; i++ {
		list = append(list, string([]byte{byte(i)}), "a="+string([]byte{byte(i)}), "!"+string([]byte{byte(i)}), "@*{"+string([]byte{byte(i)}))
	}
	return list
}

func TestCallsEndAndErrorsStandAlone(t *testing.T) {
	for _, src := range oddTexts() {
		n, scanned, _ := witness.Scan(src)
		if (scanned != api.OK) != (n == 0) {
			t.Errorf("P1: Scan(%q) = %d, %d", src, n, scanned)
		}
		for _, p := range oddNumbers {
			for _, way := range oddNumbers {
				point, e := witness.Next(src, p, way)
				if e != api.OK && point != 0 {
					t.Errorf("P1: Next(%q, %d, %d) = %d, %d", src, p, way, point, e)
				}
				if (e == api.ErrText) != (scanned == api.ErrText) {
					t.Errorf("P1: Next(%q, %d, %d) answers %d, Scan %d", src, p, way, e, scanned)
				}
			}
			s, point, v, e := witness.Run(src, oddNumbers, p)
			if e != scanned {
				t.Errorf("P1: Run(%q) answers %d, Scan %d", src, e, scanned)
			}
			if e != api.OK && (s != 0 || point != 0 || v != nil) {
				t.Errorf("P1: Run(%q) = %d, %d, %v, %d", src, s, point, v, e)
			}
		}
	}
}

var oddOctagons = [][]int{nil, {}, oct(""), oct("a<=3 b<=4"), oct("a<=1 -a<=-2"), slices.Repeat([]int{-4000}, 32), slices.Repeat([]int{4000}, 32), slices.Repeat([]int{-1 << 63}, 32), slices.Repeat([]int{1<<63 - 1}, 32), make([]int, 1000)}

func TestPostAndSafeEndAndErrorsStandAlone(t *testing.T) {
	for _, src := range oddTexts() {
		_, scanned, _ := witness.Scan(src)
		for _, p := range oddNumbers {
			for _, o := range oddOctagons {
				safe, e := witness.Safe(src, p, o)
				if (e != api.OK && safe) || (e == api.ErrText) != (scanned == api.ErrText) {
					t.Errorf("P1: Safe(%.40q, %d, ..) = %v, %d", src, p, safe, e)
				}
				for _, way := range oddNumbers {
					after, e := witness.Post(src, p, way, o)
					_, next := witness.Next(src, p, way)
					if next != api.OK && e != next {
						t.Errorf("P1: Post(%.40q, %d, %d, ..) answers %d, Next %d", src, p, way, e, next)
					}
					if e != api.OK && after != nil {
						t.Errorf("P1: Post(%.40q, %d, %d, ..) = %v, %d", src, p, way, after, e)
					}
				}
			}
		}
	}
}

func TestCertificateCallsEndAndErrorsStandAlone(t *testing.T) {
	certs := append(oddTexts(), bytesOf(1, 0), bytesOf(1, 1, 0), bytesOf(2, 1, 0, 1, 0), strings.Repeat("\x01", 1000), strings.Repeat("\x15", 1000), strings.Repeat("\xff", 1<<20))
	for _, cert := range certs {
		l, e := witness.Decode(cert)
		if (e != api.OK) != (l == nil) || (e != api.OK && e != api.ErrCert) {
			t.Errorf("P1: Decode(%.40q) = %d lists, %d", cert, len(l), e)
		}
		for _, src := range []string{"", "a=1;", "@*{}", "a=1", "a", strings.Repeat("?", 1<<20)} {
			_, scanned, place := witness.Scan(src)
			got, at := witness.Check(src, cert)
			if scanned != api.OK && (got != scanned || at != place) {
				t.Errorf("P1: Check(%.40q, %.40q) = %d, %d, but Scan %d, %d", src, cert, got, at, scanned, place)
			}
			if scanned == api.OK && e != api.OK && (got != api.ErrCert || at != 0) {
				t.Errorf("P1: Check(%.40q, %.40q) = %d, %d", src, cert, got, at)
			}
		}
	}
	for _, src := range oddTexts() {
		_, scanned, place := witness.Scan(src)
		for _, cert := range []string{"", bytesOf(1, 0), bytesOf(2, 1, 0, 1, 0)} {
			got, at := witness.Check(src, cert)
			if (scanned == api.ErrText) != (got == api.ErrText) || (scanned == api.ErrText && at != place) {
				t.Errorf("P1: Check(%.40q, %.40q) = %d, %d, but Scan %d, %d", src, cert, got, at, scanned, place)
			}
		}
	}
	for _, o := range oddOctagons {
		for n := range 24 {
			cert, e := witness.Encode(slices.Repeat([][]int{o}, n))
			if (e != api.OK) != (cert == "") {
				t.Errorf("P1: Encode of %d lists is %.40q, %d", n, cert, e)
			}
		}
	}
}

func TestAnalyzeEndsAndErrorsStandAlone(t *testing.T) {
	for _, src := range oddTexts() {
		_, scanned, _ := witness.Scan(src)
		cert, e := witness.Analyze(src)
		if (scanned == api.ErrText) != (e == api.ErrText) || (e != api.OK) != (cert == "") {
			t.Errorf("P1: Analyze(%.40q) = %.40q, %d, but Scan answers %d", src, cert, e, scanned)
		}
		if e != api.OK && e != api.ErrText && e != api.ErrUnknown {
			t.Errorf("P13: Analyze(%.40q) answers %d", src, e)
		}
	}
}

func TestRunWritesIntoNothing(t *testing.T) {
	room := []int{1, 5, 0, 1, 77, 78, 79, 80}
	before := slices.Clone(room)
	src := "@*{a=*;}b=*;c=*;d=*;"
	for n := 0; n <= len(room); n++ {
		witness.Run(src, room[:n], 100)
		if !slices.Equal(room, before) {
			t.Fatalf("P2: Run wrote into its inputs: %v", room)
		}
	}
	// What stands in the spare room is no input.
	wantRun(t, "a=*;b=*;", room[:1], 9, outcome{api.Halted, 2, [4]int{1, 0, 0, 0}})
}

func TestRunAnswersFreshLists(t *testing.T) {
	src := "a=*;b=*;c=3;d=4;"
	inputs := []int{1, 2}
	_, _, first, _ := witness.Run(src, inputs, 9)
	_, _, second, _ := witness.Run(src, inputs, 9)
	scribble(first)
	if !slices.Equal(second, []int{1, 2, 3, 4}) || !slices.Equal(inputs, []int{1, 2}) {
		t.Errorf("P2: an answer shares its list: %v, %v", second, inputs)
	}
	wantRun(t, src, inputs, 9, outcome{api.Halted, 4, [4]int{1, 2, 3, 4}})
}

const everyStatement = "a=*;a=7;a=b;a=-a+1;!a<=1;!*;?a-b<=1{}{}@*{}"

// withRoom is an octagon with spare room behind it, and all of that room.
func withRoom(o []int) ([]int, []int) {
	room := append(slices.Clone(o), 71, 72, 73, 74, 75, 76, 77, 78)
	return room[:len(o)], room
}

func TestOctagonCallsWriteIntoNothing(t *testing.T) {
	for _, told := range []string{"", "a<=9 a+b<=3 a-b<=0 c<=1", "a<=1 -a<=-2"} {
		o, roomO := withRoom(oct(told))
		p, roomP := withRoom(oct("a<=3 b<=4 a+b<=8"))
		beforeO, beforeP := slices.Clone(roomO), slices.Clone(roomP)
		witness.Close(o)
		witness.Within(o, p)
		witness.Within(p, o)
		witness.Join(o, p)
		witness.Join(p, o)
		witness.Join(o, o)
		for p := range 8 {
			witness.Post(everyStatement, p, 0, o)
			witness.Post(everyStatement, p, 1, o)
			witness.Safe(everyStatement, p, o)
		}
		if !slices.Equal(roomO, beforeO) || !slices.Equal(roomP, beforeP) {
			t.Errorf("P2: an octagon that was handed in is changed: %v, %v", roomO, roomP)
		}
	}
}

// scribble writes into a list and its spare room.
func scribble(list []int) {
	spare := list[:cap(list)]
	for i := range spare {
		spare[i] = -55
	}
}

func TestOctagonCallsAnswerFreshLists(t *testing.T) {
	o, none := oct("a<=3 b<=4 a+b<=7"), oct("a<=1 -a<=-2")
	for range 2 {
		first, _ := witness.Close(o)
		second, _ := witness.Close(o)
		joined, _ := witness.Join(o, o)
		left, _ := witness.Join(o, none)
		right, _ := witness.Join(none, o)
		after, _ := witness.Post("@*{}", 0, 0, o)
		again, _ := witness.Post("a=a;", 0, 0, o)
		scribble(first)
		scribble(left)
		scribble(after)
		for _, list := range [][]int{o, second, joined, right, again} {
			if !slices.Equal(list, oct("a<=3 b<=4 a+b<=7")) {
				t.Errorf("P2: an answer shares its list: %s", tell(list))
			}
		}
		scribble(second)
		scribble(joined)
		scribble(right)
		scribble(again)
	}
	wantClose(t, o, o)
}

func TestEncodeWritesIntoNothing(t *testing.T) {
	first, firstRoom := withRoom(oct("a<=9 a+b<=3"))
	second, secondRoom := withRoom(oct(""))
	third, thirdRoom := withRoom(oct("a<=4001"))
	rooms := [][]int{firstRoom, secondRoom, thirdRoom}
	before := [][]int{slices.Clone(firstRoom), slices.Clone(secondRoom), slices.Clone(thirdRoom)}
	lists := [][]int{first, nil, second, third, first, {}}
	for n := range len(lists) + 1 {
		witness.Encode(lists[:n])
		if !sameLists(lists, [][]int{first, nil, second, third, first, {}}) || !sameLists(rooms, before) {
			t.Errorf("P2: Encode changed what was handed in: %.400v, %.400v", lists, rooms)
		}
	}
}

// scribbleAll writes into lists, into the list of them, and into all spare room.
func scribbleAll(lists [][]int) {
	for _, list := range lists {
		scribble(list)
	}
	spare := lists[:cap(lists)]
	for i := range spare {
		scribble(spare[i])
		spare[i] = []int{-55}
	}
}

func TestDecodeAnswersFreshLists(t *testing.T) {
	want := claims("a<=3", "nil", "a<=3", "", "", "a<=3")
	cert, _ := witness.Encode(want)
	first, _ := witness.Decode(cert)
	second, _ := witness.Decode(cert)
	scribbleAll(first)
	if !sameLists(second, want) {
		t.Errorf("P2: two answers share a list: %s", tellAll(second))
	}
	// Nor do two lists of one answer.
	for i := range second {
		scribble(second[i])
		if !sameLists(second[i+1:], want[i+1:]) {
			t.Errorf("P2: the lists of an answer are shared: %s", tellAll(second))
		}
	}
	scribbleAll(second)
	wantDecode(t, cert, want)
	// What was handed to Encode is the caller's still.
	scribbleAll(want)
	wantDecode(t, cert, claims("a<=3", "nil", "a<=3", "", "", "a<=3"))
}

func TestAnalyzeAnswersTheSameAgain(t *testing.T) {
	first, _ := witness.Analyze("@a<=9{a=a+1;b=*;}")
	other, _ := witness.Analyze("@b<=9{b=b+1;a=*;}")
	again, _ := witness.Analyze("@a<=9{a=a+1;b=*;}")
	if first != again || first == other {
		t.Errorf("P2: Analyze gives %.40q, then %.40q; of another program %.40q", first, again, other)
	}
	lists, _ := witness.Decode(first)
	scribbleAll(lists)
	wantCheckBytes(t, "@a<=9{a=a+1;b=*;}", first, api.OK, 0)
}

func TestAnswersHangOnTheArgumentsAlone(t *testing.T) {
	for i := 0; i < 3; i++ {
		wantScan(t, "a=1;@*{}", 3, api.OK, 0)
		wantScan(t, "a=1;@*{", 0, api.ErrText, 7)
		wantNext(t, "a=1;@*{}", 1, 0, 1, api.OK)
		wantNext(t, "a=1;@*{", 1, 0, 0, api.ErrText)
		wantRun(t, "a=*;b=b+1;", []int{6}, 9, outcome{api.Halted, 2, [4]int{6, 1, 0, 0}})
		wantRun(t, "a=*;b=b+1;", nil, 9, outcome{api.Halted, 2, [4]int{0, 1, 0, 0}})
		wantClose(t, oct("a+b<=3 a-b<=0"), oct("a+b<=3 a-b<=0 a<=1"))
		wantClose(t, oct("a<=1 -a<=-2"), nil)
		wantWithin(t, oct("a<=1"), oct("a<=2"), true)
		wantWithin(t, oct("a<=1 b<=3"), oct("a<=2 b<=2"), false)
		wantJoin(t, oct("a<=1"), oct("a<=2"), oct("a<=2"))
		wantPost(t, "a=b;?a<=2{}{}", 0, 0, oct("b<=3"), oct("b<=3 a<=3 a+b<=6 a-b<=0 -a+b<=0"))
		wantPost(t, "a=b;?a<=2{}{}", 1, 1, oct("b<=3"), oct("b<=3 -a<=-3 -a+b<=0"))
		wantSafe(t, "a=b;!a<=2;", 0, oct("a<=2"), false)
		wantSafe(t, "a=b;!a<=2;", 1, oct("a<=2"), true)
		wantEncode(t, claims("nil", "a<=3"), bytesOf(2, 0, 1, 1, 0, 15, 163))
		wantEncode(t, claims("nil"), bytesOf(1, 0))
		wantDecode(t, bytesOf(2, 0, 1, 1, 0, 15, 163), claims("nil", "a<=3"))
		wantNoCertificate(t, bytesOf(2, 0))
		wantDecode(t, bytesOf(1, 1, 0), claims(""))
		wantCheck(t, "a=1;!a<=1;", claims("", "a<=1", "a<=1"), api.OK, 0)
		wantCheck(t, "a=1;!a<=1;", claims("", "a<=1", "a<=0"), api.ErrEdge, 1)
		wantCheck(t, "a=2;!a<=1;", claims("", "a<=1", "a<=1"), api.ErrEdge, 0)
		wantFound(t, "@a<=9{a=a+1;}!-a<=-10;")
		wantNotFound(t, "@a<=9{a=a+1;}!-a<=-11;", api.ErrUnknown)
		wantNotFound(t, "@a<=9{a=a+1;}!-a<=-10", api.ErrText)
	}
}
