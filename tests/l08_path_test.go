package tests

import (
	"math"
	"math/rand"
	"reflect"
	"slices"
	"strings"
	"testing"

	"loop.example/g00556/impl"
)

func areAddresses(l []int64) bool {
	for _, n := range l {
		if !within(n, 1, 8) {
			return false
		}
	}
	return true
}

func pathIsRight(p impl.Path) bool {
	return areAddresses(p.Ahead) && areAddresses(p.Behind) && len(p.Ahead)+len(p.Behind) <= 5
}

func samePath(a impl.Path, b impl.Path) bool {
	return sameNums(a.Ahead, b.Ahead) && sameNums(a.Behind, b.Behind)
}

func samePathOut(a impl.PathOut, b impl.PathOut) bool {
	return samePath(a.Path, b.Path) && a.To == b.To && a.Code == b.Code
}

func ownPath(p impl.Path) impl.Path {
	return impl.Path{Ahead: append([]int64{}, p.Ahead...), Behind: append([]int64{}, p.Behind...)}
}

// newPath, stepped, home, pathBytesOf and pathReadOf are what must be answered, in the document's words.
func newPath(hops []int64) impl.PathOut {
	if len(hops) > 400 {
		return impl.PathOut{Code: 2}
	}
	if len(hops) < 1 || len(hops) > 5 || !areAddresses(hops) {
		return impl.PathOut{Code: 1}
	}
	return impl.PathOut{Path: ownPath(impl.Path{Ahead: hops})}
}

func stepped(p impl.Path, via int64) impl.PathOut {
	if !pathIsRight(p) || !within(via, 1, 8) {
		return impl.PathOut{Code: 1}
	}
	if len(p.Ahead) == 0 {
		return impl.PathOut{Code: 6}
	}
	next := ownPath(p)
	return impl.PathOut{Path: impl.Path{Ahead: next.Ahead[1:], Behind: slices.Insert(next.Behind, 0, via)}, To: p.Ahead[0]}
}

func home(p impl.Path) impl.PathOut {
	if !pathIsRight(p) {
		return impl.PathOut{Code: 1}
	}
	return impl.PathOut{Path: impl.Path{Ahead: ownPath(p).Behind}}
}

func pathBytesOf(p impl.Path) string {
	if !pathIsRight(p) {
		return ""
	}
	var b [10]byte
	for i, a := range p.Ahead {
		b[i] = byte(a)
	}
	for i, a := range p.Behind {
		b[5+i] = byte(a)
	}
	return string(b[:])
}

// numsAhead are the bytes ahead of the zeros at the end, as numbers.
func numsAhead(text string) []int64 {
	var l []int64
	for _, b := range []byte(strings.TrimRight(text, "\x00")) {
		l = append(l, int64(b))
	}
	return l
}

func pathReadOf(text string) impl.PathOut {
	if len(text) > 8000 {
		return impl.PathOut{Code: 2}
	}
	if len(text) != 10 {
		return impl.PathOut{Code: 3}
	}
	p := impl.Path{Ahead: numsAhead(text[:5]), Behind: numsAhead(text[5:])}
	if !pathIsRight(p) {
		return impl.PathOut{Code: 3}
	}
	return impl.PathOut{Path: p}
}

func pathIs(t *testing.T, what string, of any, got impl.PathOut, want impl.PathOut) {
	t.Helper()
	if !samePathOut(got, want) {
		t.Fatalf("%s of %.200v = %.200v, want %v", what, of, got, want)
	}
}

func readPathIs(t *testing.T, text string, want impl.PathOut) {
	t.Helper()
	if got := impl.PathRead(text); !samePathOut(got, want) {
		t.Fatalf("PathRead(%.60q) of %d bytes = %v, want %v", text, len(text), got, want)
	}
}

// hopLists are all lists of so many addresses.
func hopLists(long int) [][]int64 {
	l := [][]int64{{}}
	for range long {
		var longer [][]int64
		for _, hops := range l {
			for a := int64(1); a <= 8; a++ {
				longer = append(longer, append(append([]int64{}, hops...), a))
			}
		}
		l = longer
	}
	return l
}

// eachPath are all right paths there are: each list of addresses, cut at each place.
func eachPath(yield func(p impl.Path) bool) {
	for long := range 6 {
		for _, hops := range hopLists(long) {
			for at := range long + 1 {
				if !yield(ownPath(impl.Path{Ahead: hops[:at], Behind: hops[at:]})) {
					return
				}
			}
		}
	}
}

// pathOf has so many addresses ahead and so many behind, next to each other no two alike.
func pathOf(ahead int, behind int) impl.Path {
	var p impl.Path
	for i := range ahead {
		p.Ahead = append(p.Ahead, int64(1+(i*3)%8))
	}
	for i := range behind {
		p.Behind = append(p.Behind, int64(8-(i*3)%8))
	}
	return p
}

// rightPaths have each length of either half that may be.
func rightPaths() []impl.Path {
	l := []impl.Path{{}, {Ahead: []int64{}, Behind: []int64{}}}
	for ahead := range 6 {
		for behind := range 6 - ahead {
			l = append(l, pathOf(ahead, behind), impl.Path{Ahead: listOf(ahead, 1), Behind: listOf(behind, 8)}, impl.Path{Ahead: listOf(ahead, 8), Behind: listOf(behind, 1)})
		}
	}
	return l
}

// wrongPaths have just one thing that may not be: one address too many, or a number that is none at one place of either half.
func wrongPaths() []impl.Path {
	var l []impl.Path
	for ahead := range 7 {
		l = append(l, pathOf(ahead, 6-ahead))
	}
	l = append(l, pathOf(5, 5), pathOf(0, 10), pathOf(10, 0), pathOf(1, 7), pathOf(256, 0), pathOf(0, 256), pathOf(128, 128))
	for _, long := range []int{impl.MaxList, impl.MaxList + 1, 70000} {
		l = append(l, pathOf(long, 0), pathOf(0, long), pathOf(long, long))
	}
	for _, right := range rightPaths() {
		for _, n := range []int64{math.MinInt64, -256, -255, -1, 0, 9, 10, 127, 128, 255, 256, 257, 264, 65537, 1<<32 + 1, math.MaxInt64} {
			for at := range right.Ahead {
				p := ownPath(right)
				p.Ahead[at] = n
				l = append(l, p)
			}
			for at := range right.Behind {
				p := ownPath(right)
				p.Behind[at] = n
				l = append(l, p)
			}
		}
	}
	return l
}

func TestPathRight(t *testing.T) {
	for _, p := range rightPaths() {
		if !pathIsRight(p) || !impl.PathRight(p) {
			t.Errorf("PathRight(%v) = false", p)
		}
	}
	for _, p := range wrongPaths() {
		if pathIsRight(p) || impl.PathRight(p) {
			t.Errorf("PathRight(%.200v) = true", p)
		}
	}
}

// Each of 0, 1, 8 and 9 in each place of either half, by itself and with the others.
func TestPathRightByHand(t *testing.T) {
	for _, c := range []struct {
		ahead  []int64
		behind []int64
		want   bool
	}{
		{nil, nil, true}, {[]int64{}, []int64{}, true}, {[]int64{}, nil, true},
		{[]int64{1}, nil, true}, {[]int64{8}, nil, true}, {[]int64{0}, nil, false}, {[]int64{9}, nil, false}, {[]int64{-1}, nil, false},
		{nil, []int64{1}, true}, {nil, []int64{8}, true}, {nil, []int64{0}, false}, {nil, []int64{9}, false}, {nil, []int64{-1}, false},
		{[]int64{1, 2, 3, 4, 5}, nil, true}, {nil, []int64{8, 7, 6, 5, 4}, true}, {[]int64{3, 3, 3}, []int64{3, 3}, true},
		{[]int64{1, 2, 3, 4, 5, 6}, nil, false}, {nil, []int64{8, 7, 6, 5, 4, 3}, false},
		{[]int64{1, 2, 3}, []int64{1, 2}, true}, {[]int64{1, 2}, []int64{1, 2, 3}, true}, {[]int64{1, 2, 3}, []int64{1, 2, 3}, false},
		{[]int64{1, 2, 3, 4, 5}, []int64{1}, false}, {[]int64{1}, []int64{1, 2, 3, 4, 5}, false}, {[]int64{1, 2, 3, 4, 5}, []int64{1, 2, 3, 4, 5}, false},
		{[]int64{1, 2, 3, 4, 0}, nil, false}, {[]int64{1, 2, 9, 4, 5}, nil, false}, {nil, []int64{1, 2, 3, 4, 9}, false}, {[]int64{1, 2}, []int64{3, 0, 5}, false},
		{[]int64{1, 2, 3, 4, 5}, []int64{0}, false}, {[]int64{0}, []int64{1, 2, 3, 4, 5}, false},
	} {
		if got := impl.PathRight(impl.Path{Ahead: c.ahead, Behind: c.behind}); got != c.want {
			t.Errorf("PathRight of %v and %v = %v", c.ahead, c.behind, got)
		}
	}
}

func TestPathNew(t *testing.T) {
	for _, hops := range [][]int64{nil, {}, {0}, {9}, {-1}, {1, 2, 3, 4, 5, 6}, {1, 2, 3, 4, 5, 0}, {1, 2, 3, 4, 0}, {0, 2}, {1, 9, 3}, {math.MinInt64}, {math.MaxInt64}, {257}, {1, 1<<32 + 1}, listOf(6, 1), listOf(8, 8), listOf(256, 1), listOf(399, 1), listOf(impl.MaxList, 1), listOf(impl.MaxList, 0)} {
		pathIs(t, "PathNew", hops, impl.PathNew(hops), impl.PathOut{Code: impl.ErrForm})
	}
	for _, hops := range [][]int64{listOf(impl.MaxList+1, 1), listOf(impl.MaxList+1, 0), listOf(impl.MaxList+2, 9), listOf(2*impl.MaxList, 1), listOf(70000, 1)} {
		pathIs(t, "PathNew", hops, impl.PathNew(hops), impl.PathOut{Code: impl.ErrSize})
	}
	for _, p := range append(rightPaths(), wrongPaths()...) {
		for _, hops := range [][]int64{p.Ahead, p.Behind} {
			pathIs(t, "PathNew", hops, impl.PathNew(hops), newPath(hops))
		}
	}
	for long := 1; long <= 5; long++ {
		for _, hops := range hopLists(long) {
			pathIs(t, "PathNew", hops, impl.PathNew(hops), impl.PathOut{Path: impl.Path{Ahead: hops}})
		}
	}
}

// edgeVias are addresses, and numbers that are none.
func edgeVias() []int64 {
	return append(edgeAddresses(), -256, 3, 4, 5, 6, 10, 127, 128, 255, 256, 257, 264, 1<<32+1)
}

func TestPathStep(t *testing.T) {
	for p := range eachPath {
		for via := int64(0); via <= 9; via++ {
			pathIs(t, "PathStep", p, impl.PathStep(p, via), stepped(p, via))
		}
	}
	for _, p := range append(rightPaths(), wrongPaths()...) {
		for _, via := range edgeVias() {
			pathIs(t, "PathStep", p, impl.PathStep(p, via), stepped(p, via))
		}
	}
}

func TestPathStepByHand(t *testing.T) {
	none, form := impl.PathOut{Code: impl.ErrNone}, impl.PathOut{Code: impl.ErrForm}
	gone := func(to int64, ahead []int64, behind ...int64) impl.PathOut {
		return impl.PathOut{Path: impl.Path{Ahead: ahead, Behind: behind}, To: to}
	}
	for _, c := range []struct {
		p    impl.Path
		via  int64
		want impl.PathOut
	}{
		{impl.Path{Ahead: []int64{3}}, 7, gone(3, nil, 7)},
		{impl.Path{Ahead: []int64{3}}, 3, gone(3, nil, 3)},
		{impl.Path{Ahead: []int64{3, 4, 5, 6, 7}}, 1, gone(3, []int64{4, 5, 6, 7}, 1)},
		{impl.Path{Ahead: []int64{3, 4, 5, 6, 7}}, 8, gone(3, []int64{4, 5, 6, 7}, 8)},
		{impl.Path{Ahead: []int64{4, 5, 6, 7}, Behind: []int64{8}}, 2, gone(4, []int64{5, 6, 7}, 2, 8)},
		{impl.Path{Ahead: []int64{7}, Behind: []int64{1, 2, 3, 4}}, 5, gone(7, nil, 5, 1, 2, 3, 4)},
		{impl.Path{}, 1, none},
		{impl.Path{Ahead: []int64{}, Behind: []int64{1, 2, 3, 4, 5}}, 8, none},
		// A via that is none comes ahead of nothing Ahead, and so does a path that is not right.
		{impl.Path{}, 0, form}, {impl.Path{}, 9, form}, {impl.Path{}, -1, form},
		{impl.Path{Behind: []int64{1, 2}}, 0, form}, {impl.Path{Behind: []int64{1, 2}}, 9, form}, {impl.Path{Behind: []int64{1, 2}}, -1, form},
		{impl.Path{Behind: []int64{9}}, 1, form}, {impl.Path{Behind: []int64{0}}, 0, form}, {impl.Path{Behind: listOf(6, 1)}, 1, form},
		{impl.Path{Ahead: []int64{3}}, 0, form}, {impl.Path{Ahead: []int64{3}}, 9, form}, {impl.Path{Ahead: []int64{3}}, -1, form},
		{impl.Path{Ahead: []int64{0}}, 1, form}, {impl.Path{Ahead: []int64{3, 9}}, 1, form}, {impl.Path{Ahead: listOf(6, 1)}, 1, form},
		{impl.Path{Ahead: listOf(impl.MaxList+1, 1)}, 1, form}, {impl.Path{Ahead: []int64{1}, Behind: listOf(impl.MaxList+1, 1)}, 1, form},
	} {
		pathIs(t, "PathStep", c, impl.PathStep(c.p, c.via), c.want)
	}
}

func TestPathHome(t *testing.T) {
	for p := range eachPath {
		out := impl.PathHome(p)
		pathIs(t, "PathHome", p, out, impl.PathOut{Path: impl.Path{Ahead: p.Behind}})
		// Home from home: nobody was come through since.
		pathIs(t, "PathHome twice", p, impl.PathHome(out.Path), impl.PathOut{})
	}
	for _, p := range append(rightPaths(), wrongPaths()...) {
		pathIs(t, "PathHome", p, impl.PathHome(p), home(p))
	}
	form := impl.PathOut{Code: impl.ErrForm}
	for _, p := range []impl.Path{{Behind: []int64{0}}, {Behind: []int64{9}}, {Ahead: []int64{9}, Behind: []int64{1}}, {Ahead: []int64{1, 2, 3}, Behind: []int64{4, 5, 6}}, {Behind: listOf(6, 2)}, {Behind: listOf(impl.MaxList+1, 2)}} {
		pathIs(t, "PathHome", p, impl.PathHome(p), form)
	}
}

func TestPathBytes(t *testing.T) {
	for p := range eachPath {
		if got, want := impl.PathBytes(p), pathBytesOf(p); got != want || len(got) != 10 {
			t.Fatalf("PathBytes(%v) = %q, want %q", p, got, want)
		}
	}
	for _, p := range wrongPaths() {
		if got := impl.PathBytes(p); got != "" {
			t.Fatalf("PathBytes(%.200v) = %q", p, got)
		}
	}
	for _, c := range []struct {
		ahead  []int64
		behind []int64
		want   string
	}{
		{nil, nil, "\x00\x00\x00\x00\x00\x00\x00\x00\x00\x00"},
		{[]int64{3}, nil, "\x03\x00\x00\x00\x00\x00\x00\x00\x00\x00"},
		{nil, []int64{3}, "\x00\x00\x00\x00\x00\x03\x00\x00\x00\x00"},
		{[]int64{1, 2, 3, 4, 5}, nil, "\x01\x02\x03\x04\x05\x00\x00\x00\x00\x00"},
		{nil, []int64{8, 7, 6, 5, 4}, "\x00\x00\x00\x00\x00\x08\x07\x06\x05\x04"},
		{[]int64{1, 2, 3}, []int64{8, 7}, "\x01\x02\x03\x00\x00\x08\x07\x00\x00\x00"},
		{[]int64{1}, []int64{8, 7, 6, 5}, "\x01\x00\x00\x00\x00\x08\x07\x06\x05\x00"},
		{[]int64{0}, nil, ""}, {nil, []int64{0}, ""}, {[]int64{9}, nil, ""}, {nil, []int64{9}, ""}, {[]int64{1, 0}, nil, ""},
		{[]int64{1, 2, 3}, []int64{1, 2, 3}, ""}, {listOf(6, 1), nil, ""}, {nil, listOf(6, 1), ""},
	} {
		if got := impl.PathBytes(impl.Path{Ahead: c.ahead, Behind: c.behind}); got != c.want {
			t.Errorf("PathBytes of %v and %v = %q, want %q", c.ahead, c.behind, got, c.want)
		}
	}
}

func TestPathsComeBack(t *testing.T) {
	for p := range eachPath {
		readPathIs(t, pathBytesOf(p), impl.PathOut{Path: p})
	}
}

// All texts of nothing, the least address, the greatest one, and what is just too great.
func TestPathReadOfEachText(t *testing.T) {
	read := 0
	var each func(text []byte)
	each = func(text []byte) {
		if len(text) == 10 {
			want := pathReadOf(string(text))
			readPathIs(t, string(text), want)
			if want.Code == impl.OK {
				read++
			}
			return
		}
		for _, b := range []byte{0, 1, 8, 9} {
			each(append(text, b))
		}
	}
	each(make([]byte, 0, 10))
	// Of n addresses, each one of two, there are n+1 ways to cut them: 1 + 2*2 + 3*4 + 4*8 + 5*16 + 6*32.
	if read != 321 {
		t.Errorf("%d of these texts are paths", read)
	}
}

func TestPathReadByHand(t *testing.T) {
	zeros := func(many int) string { return strings.Repeat("\x00", many) }
	for _, text := range []string{
		"", zeros(1), zeros(5), zeros(9), zeros(11), zeros(20), "\x03", "\x03\x04\x05\x06\x07",
		"\x03" + zeros(8), "\x03" + zeros(10), "\x03\x04\x05\x06\x07" + zeros(4), "\x03\x04\x05\x06\x07" + zeros(6),
		// A zero ahead of an address, in either half.
		"\x00\x03" + zeros(8), zeros(4) + "\x03" + zeros(5), "\x03\x00\x04" + zeros(7), "\x03\x04\x05\x00\x06" + zeros(5),
		zeros(6) + "\x03" + zeros(3), zeros(9) + "\x03", zeros(5) + "\x03\x00\x04" + zeros(2), zeros(5) + "\x03\x04\x05\x00\x06",
		// Six of them, and more, together.
		"\x01\x02\x03\x04\x05\x06" + zeros(4), "\x01" + zeros(4) + "\x01\x02\x03\x04\x05", "\x01\x02\x03\x00\x00\x01\x02\x03\x00\x00", "\x01\x02\x03\x04\x05\x01\x02\x03\x04\x05",
		// No addresses.
		"\x09" + zeros(9), zeros(5) + "\x09" + zeros(4), zeros(9) + "\x09", zeros(4) + "\x09" + zeros(5), "\x7f" + zeros(9), "\x80" + zeros(9), "\x83" + zeros(9), zeros(5) + "\xff" + zeros(4),
		"3" + zeros(9), "34" + zeros(8), "3400070000", "1234567812",
	} {
		readPathIs(t, text, impl.PathOut{Code: impl.ErrSyntax})
	}
	readPathIs(t, zeros(10), impl.PathOut{})
	readPathIs(t, "\x04\x00\x00\x00\x00\x07\x00\x00\x00\x00", impl.PathOut{Path: impl.Path{Ahead: []int64{4}, Behind: []int64{7}}})
	readPathIs(t, "\x00\x00\x00\x00\x00\x08\x07\x00\x00\x00", impl.PathOut{Path: impl.Path{Behind: []int64{8, 7}}})
	readPathIs(t, "\x01\x02\x03\x04\x05\x00\x00\x00\x00\x00", impl.PathOut{Path: impl.Path{Ahead: []int64{1, 2, 3, 4, 5}}})
}

func TestPathReadEndsAndMore(t *testing.T) {
	for _, p := range rightPaths() {
		text := pathBytesOf(p)
		for end := range text {
			readPathIs(t, text[:end], impl.PathOut{Code: impl.ErrSyntax})
			readPathIs(t, text[end+1:], impl.PathOut{Code: impl.ErrSyntax})
		}
		for _, more := range []string{"\x00", "\x01", "\xff", text} {
			readPathIs(t, text+more, impl.PathOut{Code: impl.ErrSyntax})
			readPathIs(t, more+text, impl.PathOut{Code: impl.ErrSyntax})
		}
	}
}

func TestPathReadSizes(t *testing.T) {
	for _, b := range []string{"\x00", "\x01", "\x09", "\xff"} {
		for _, ahead := range []string{"", "\x03\x00\x00\x00\x00\x07\x00\x00\x00\x00"} {
			for _, long := range []int{255, 256, 266, impl.MaxBytes - 1, impl.MaxBytes} {
				readPathIs(t, ahead+strings.Repeat(b, long-len(ahead)), impl.PathOut{Code: impl.ErrSyntax})
			}
			for _, long := range []int{impl.MaxBytes + 1, impl.MaxBytes + 2, 2 * impl.MaxBytes, 70000} {
				readPathIs(t, ahead+strings.Repeat(b, long-len(ahead)), impl.PathOut{Code: impl.ErrSize})
			}
		}
	}
}

func TestTurnedPaths(t *testing.T) {
	for _, p := range rightPaths() {
		text := pathBytesOf(p)
		for at := range text {
			for b := range 256 {
				turned := []byte(text)
				turned[at] = byte(b)
				want := pathReadOf(string(turned))
				if b > 8 && want.Code != impl.ErrSyntax {
					t.Fatalf("%q is a path: %v", turned, want)
				}
				readPathIs(t, string(turned), want)
			}
		}
	}
}

// Runes of several bytes, bytes that are no rune, and such as would be an address if a part of them fell away, at
// each place: the text has ten bytes with them, or ten runes.
func TestPathReadRunes(t *testing.T) {
	runes := []string{
		"\u0080", "\u0083", "\u00e9", "\u0100", "\u0101", "\u0103", "\u0108", "\u0180", "\u07ff", "\u0800", "\u0803", "\u2003", "\ufffd", "\U00010000", "\U00010003", "\U0010ffff",
		"\xc0\x80", "\xc0\x83", "\xe0\x80\x80", "\xe0\x80\x83", "\xf0\x80\x80\x83", "\xed\xa0\x83", "\xf4\x90\x80\x83",
		"\x80", "\x81", "\x83", "\x88", "\xbf", "\xc3", "\xe2\x80", "\xf0", "\xff", "\xff\x03",
	}
	for _, p := range rightPaths() {
		text := pathBytesOf(p)
		for _, r := range runes {
			for at := range len(text) + 1 {
				readPathIs(t, text[:at]+r+text[at:], impl.PathOut{Code: impl.ErrSyntax})
				if at < len(text) {
					readPathIs(t, text[:at]+r+text[at+1:], impl.PathOut{Code: impl.ErrSyntax})
				}
				if at+len(r) <= len(text) {
					readPathIs(t, text[:at]+r+text[at+len(r):], impl.PathOut{Code: impl.ErrSyntax})
				}
			}
			readPathIs(t, strings.Repeat(r, 10), impl.PathOut{Code: impl.ErrSyntax})
		}
	}
}

// goesThrough goes on by a path to its end, through these vias, as bytes from bridge to bridge, and tells whom it came to.
func goesThrough(t *testing.T, p impl.Path, vias []int64) (impl.Path, []int64) {
	t.Helper()
	var to []int64
	for _, via := range vias {
		out := impl.PathStep(p, via)
		if out.Code != impl.OK || !impl.PathRight(out.Path) {
			t.Fatalf("PathStep(%v, %d) = %v", p, via, out)
		}
		read := impl.PathRead(impl.PathBytes(out.Path))
		if read.Code != impl.OK || !samePath(read.Path, out.Path) {
			t.Fatalf("%v comes back as %v", out.Path, read)
		}
		to, p = append(to, out.To), read.Path
	}
	if out := impl.PathStep(p, 1); !samePathOut(out, impl.PathOut{Code: impl.ErrNone}) {
		t.Fatalf("at the end of the path, PathStep(%v, 1) = %v", p, out)
	}
	return p, to
}

func lastFirst(l []int64) []int64 {
	turned := append([]int64{}, l...)
	slices.Reverse(turned)
	return turned
}

// comesHome goes all of a path, home through other bridges' addresses, and there again.
func comesHome(t *testing.T, hops []int64, vias []int64, backs []int64) {
	t.Helper()
	start := impl.PathNew(hops)
	if start.Code != impl.OK {
		t.Fatalf("PathNew(%v) = %v", hops, start)
	}
	for _, way := range []struct {
		vias []int64
		want []int64
	}{{vias, hops}, {backs, lastFirst(vias)}, {vias, lastFirst(backs)}} {
		end, to := goesThrough(t, start.Path, way.vias)
		if !sameNums(to, way.want) || !sameNums(end.Behind, lastFirst(way.vias)) || len(end.Ahead) != 0 {
			t.Fatalf("of %v through %v, home through %v: a way comes to %v, want %v, and ends as %v", hops, vias, backs, to, way.want, end)
		}
		start = impl.PathHome(end)
		pathIs(t, "PathHome", end, start, impl.PathOut{Path: impl.Path{Ahead: lastFirst(way.vias)}})
	}
}

func TestWhoGoesHomeComesThroughAll(t *testing.T) {
	for long := 1; long <= 2; long++ {
		for _, hops := range hopLists(long) {
			for _, vias := range hopLists(long) {
				comesHome(t, hops, vias, hops)
			}
		}
	}
	source := rand.New(rand.NewSource(12))
	some := func(long int) []int64 {
		l := make([]int64, long)
		for i := range l {
			l[i] = 1 + source.Int63n(8)
		}
		return l
	}
	for long := 3; long <= 5; long++ {
		for _, vias := range hopLists(long) {
			comesHome(t, some(long), vias, some(long))
		}
	}
}

// Who turns back on the way comes through those only that it came through; what was still ahead is gone.
func TestWhoTurnsBack(t *testing.T) {
	hops, vias := []int64{1, 2, 3, 4, 5}, []int64{8, 7, 7, 6, 1}
	p := impl.PathNew(hops).Path
	for long := range 6 {
		back := impl.PathHome(p)
		pathIs(t, "PathHome", p, back, impl.PathOut{Path: impl.Path{Ahead: lastFirst(vias[:long])}})
		if _, to := goesThrough(t, back.Path, hops[:long]); !sameNums(to, lastFirst(vias[:long])) {
			t.Errorf("back from %v it comes to %v", p, to)
		}
		if long < 5 {
			p = impl.PathStep(p, vias[long]).Path
		}
	}
}

// spoilPath writes over an answer's lists, one by one: the other one must stay.
func spoilPath(t *testing.T, p impl.Path) {
	t.Helper()
	behind := append([]int64{}, p.Behind...)
	spoil(p.Ahead)
	if !sameNums(p.Behind, behind) {
		t.Fatalf("the lists of one path share memory: %v", p)
	}
	ahead := append([]int64{}, p.Ahead...)
	spoil(p.Behind)
	if !sameNums(p.Ahead, ahead) {
		t.Fatalf("the lists of one path share memory: %v", p)
	}
}

// pathLeft looks at one call: what is handed in stays as it is, also behind the ends of its lists, what is answered has
// memory of its own.
func pathLeft(t *testing.T, what string, given impl.Path, call func(p impl.Path) impl.PathOut) {
	t.Helper()
	whole := append(append(append(append(make([]int64, 0, 30), given.Ahead...), 99), given.Behind...), 99)
	kept := append([]int64{}, whole...)
	long := len(given.Ahead)
	p := impl.Path{Ahead: whole[:long], Behind: whole[long+1 : len(whole)-1]}
	first, second := call(p), call(p)
	want := impl.PathOut{Path: ownPath(second.Path), To: second.To, Code: second.Code}
	spoilPath(t, first.Path)
	if !reflect.DeepEqual(whole, kept) || !samePath(p, given) {
		t.Fatalf("%s of %v changed it, or shares memory with it: %v", what, given, whole)
	}
	if !samePathOut(second, want) {
		t.Fatalf("two answers of %s of %v share memory", what, given)
	}
}

func TestPathMemory(t *testing.T) {
	for _, p := range append(rightPaths(), wrongPaths()...) {
		pathLeft(t, "PathNew", p, func(p impl.Path) impl.PathOut { return impl.PathNew(p.Ahead) })
		pathLeft(t, "PathHome", p, impl.PathHome)
		pathLeft(t, "PathRead", p, func(p impl.Path) impl.PathOut { return impl.PathRead(impl.PathBytes(p)) })
		for _, via := range []int64{0, 1, 8} {
			pathLeft(t, "PathStep", p, func(p impl.Path) impl.PathOut { return impl.PathStep(p, via) })
		}
	}
	// Both lists of what is handed in may be one.
	one := []int64{1, 2}
	p := impl.Path{Ahead: one, Behind: one}
	for _, out := range []impl.PathOut{impl.PathStep(p, 7), impl.PathHome(p), impl.PathNew(one)} {
		spoilPath(t, out.Path)
	}
	if !sameNums(one, []int64{1, 2}) {
		t.Errorf("%v was 1, 2", one)
	}
}

func FuzzPath(f *testing.F) {
	for _, p := range rightPaths() {
		f.Add(pathBytesOf(p), int64(len(p.Ahead)), int64(1+len(p.Behind)))
	}
	f.Fuzz(func(t *testing.T, text string, cut int64, via int64) {
		readPathIs(t, text, pathReadOf(text))
		var nums []int64
		for _, b := range []byte(text[:min(len(text), 500)]) {
			nums = append(nums, int64(b)-1)
		}
		at := max(0, min(cut, int64(len(nums))))
		p := impl.Path{Ahead: nums[:at], Behind: nums[at:]}
		kept := ownPath(p)
		if got := impl.PathRight(p); got != pathIsRight(p) {
			t.Fatalf("PathRight(%v) = %v", p, got)
		}
		if got := impl.PathBytes(p); got != pathBytesOf(p) {
			t.Fatalf("PathBytes(%v) = %q", p, got)
		}
		pathIs(t, "PathNew", nums, impl.PathNew(nums), newPath(nums))
		pathIs(t, "PathStep", p, impl.PathStep(p, via), stepped(p, via))
		pathIs(t, "PathHome", p, impl.PathHome(p), home(p))
		if !samePath(p, kept) {
			t.Fatalf("%v is changed to %v", kept, p)
		}
	})
}
