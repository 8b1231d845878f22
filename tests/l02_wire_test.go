package tests

import (
	"reflect"
	"strings"
	"testing"

	"loop.example/g00556/impl"
)

// checkOf is the check of a text by its polynomial, bit by bit from the highest power on: another way than
// the document's.
func checkOf(text string) int64 {
	register := 0xffff
	for i := range len(text) {
		for bit := range 8 {
			in := int(text[i]>>bit) & 1
			top := register >> 15
			register = register << 1 & 0xffff
			if in != top {
				register ^= 0x1021
			}
		}
	}
	turned := 0
	for bit := range 16 {
		turned |= (register >> bit & 1) << (15 - bit)
	}
	return int64(turned ^ 0xffff)
}

func withCheck(body string) string {
	c := checkOf(body)
	return body + string([]byte{byte(c), byte(c >> 8)})
}

func escaped(t string) string {
	return strings.NewReplacer("~", "}^", "}", "}]").Replace(t)
}

func frameOf(body string) string {
	return "~" + escaped(withCheck(body)) + "~"
}

// bodiesOf are bodies of all lengths, some of flags and escapes, and some whose check needs an escape.
func bodiesOf() []string {
	l := []string{"a", "~", "}", "^", "]", "a~}b", "}]}^", "\x00", "\xff", "~~~", "}}}", " \x5e\x5d"}
	for n := 1; n <= impl.MaxBody; n++ {
		l = append(l, manyBytes(n), strings.Repeat("~", n), strings.Repeat("}", n), strings.Repeat("z", n))
	}
	return append(l, bodiesWithCheck(0, '~'), bodiesWithCheck(0, '}'), bodiesWithCheck(1, '~'), bodiesWithCheck(1, '}'))
}

// bodiesWithCheck is a body of two bytes whose check has that byte at that place.
func bodiesWithCheck(at int, b byte) string {
	for i := range 1 << 16 {
		body := string([]byte{byte(i), byte(i >> 8)})
		if withCheck(body)[2+at] == b {
			return body
		}
	}
	return ""
}

// rightWires are wires that heard something, of each kind that is right.
func rightWires() []impl.Wire {
	l := []impl.Wire{{}, {In: true, Bad: true}, {In: true, Esc: true, Bad: true}}
	for _, buf := range []string{"", "a", "ab", "abc", "~", "}", manyBytes(61), manyBytes(62), withCheck("ab"), withCheck(manyBytes(60))} {
		l = append(l, impl.Wire{In: true, Buf: buf}, impl.Wire{In: true, Esc: true, Buf: buf})
	}
	return l
}

func TestFcs(t *testing.T) {
	for _, c := range []struct {
		text string
		want int64
	}{
		{"", 0},
		{"123456789", 0x906e},
		{"\x00", 0xf078},
		{strings.Repeat("a", impl.MaxBytes+1), 0},
		{strings.Repeat("a", 2*impl.MaxBytes), 0},
	} {
		if got := impl.Fcs(c.text); got != c.want {
			t.Errorf("Fcs(%.20q) = %x, want %x", c.text, got, c.want)
		}
	}
	for b := range 256 {
		text := string([]byte{byte(b)})
		if got, want := impl.Fcs(text), checkOf(text); got != want {
			t.Errorf("Fcs(%q) = %x, want %x", text, got, want)
		}
	}
	for _, n := range []int{2, 3, 59, 60, 61, 62, 300, impl.MaxBytes - 1, impl.MaxBytes} {
		if got, want := impl.Fcs(manyBytes(n)), checkOf(manyBytes(n)); got != want {
			t.Errorf("Fcs of %d bytes = %x, want %x", n, got, want)
		}
	}
}

func TestFrameBytes(t *testing.T) {
	for _, body := range bodiesOf() {
		if got := impl.FrameText(body); got != frameOf(body) {
			t.Errorf("FrameText(%q) = %q, want %q", body, got, frameOf(body))
		}
	}
	for _, n := range []int{0, impl.MaxBody + 1, impl.MaxBody + 2, impl.MaxBytes, impl.MaxBytes + 1} {
		if got := impl.FrameText(manyBytes(n)); got != "" {
			t.Errorf("FrameText of %d bytes = %q", n, got)
		}
	}
}

func TestBodiesComeBack(t *testing.T) {
	for _, body := range bodiesOf() {
		if got := impl.FrameRead(impl.FrameText(body)); got != (impl.TextOut{Text: body}) {
			t.Errorf("the frame of %q comes back as %+v", body, got)
		}
	}
}

func TestFrameReadFaults(t *testing.T) {
	good := frameOf("ab")
	inner := good[1 : len(good)-1]
	for _, c := range []struct {
		text string
		want int64
	}{
		{"", impl.ErrSyntax},
		{"~", impl.ErrSyntax},
		{"~~", impl.ErrSyntax},
		{"~~~", impl.ErrSyntax},
		{"x", impl.ErrSyntax},
		{"~a~", impl.ErrSyntax},
		{"~ab~", impl.ErrSyntax},
		{"~}^}]~", impl.ErrSyntax},
		{"~abc~", impl.ErrSum},
		{"~}^}]}^~", impl.ErrSum},
		{"~\x00\x00~", impl.ErrSyntax},
		{"~" + withCheck("") + "~", impl.ErrSyntax},
		{inner, impl.ErrSyntax},
		{inner + "~", impl.ErrSyntax},
		{"~" + inner, impl.ErrSyntax},
		{"x" + good, impl.ErrSyntax},
		{good + "x", impl.ErrSyntax},
		{good + "~", impl.ErrSyntax},
		{"~" + good, impl.ErrSyntax},
		{good + good, impl.ErrSyntax},
		{good + good[1:], impl.ErrSyntax},
		{"~" + inner + "}~", impl.ErrSyntax},
		{"~abc}~", impl.ErrSyntax},
		{"~}~", impl.ErrSyntax},
		{"~a~bc~", impl.ErrSyntax},
		// An escape of a byte that needs none, and of none at all, though the check is right.
		{"~}\x41" + inner[1:] + "~", impl.ErrSyntax},
		{"~}a" + inner[1:] + "~", impl.ErrSyntax},
		{"~ab}}c~", impl.ErrSyntax},
		{"~}\x7f" + escaped(withCheck("_")[1:]) + "~", impl.ErrSyntax},
		{"~}}" + escaped(withCheck("]")[1:]) + "~", impl.ErrSyntax},
		{"~ab" + string([]byte{inner[3], inner[2]}) + "~", impl.ErrSum},
		{"~ac" + inner[2:] + "~", impl.ErrSum},
		{"~" + strings.Repeat("a", 62) + "~", impl.ErrSum},
		{"~" + strings.Repeat("a", 63) + "~", impl.ErrSyntax},
		{"~" + strings.Repeat("}^", 62) + "~", impl.ErrSum},
		{"~" + strings.Repeat("}^", 63) + "~", impl.ErrSyntax},
		{frameOf(manyBytes(impl.MaxBody + 1)), impl.ErrSyntax},
		{"~" + strings.Repeat("a", impl.MaxBytes-2) + "~", impl.ErrSyntax},
		{"~" + strings.Repeat("a", impl.MaxBytes-1) + "~", impl.ErrSize},
		{strings.Repeat("a", impl.MaxBytes+1), impl.ErrSize},
	} {
		if got := impl.FrameRead(c.text); got != (impl.TextOut{Code: c.want}) {
			t.Errorf("FrameRead(%.40q) = %+v, want code %d and zeros", c.text, got, c.want)
		}
	}
}

// What is read from a frame with a byte turned, if it is read at all, has just that frame.
func TestTurnedFrames(t *testing.T) {
	for _, body := range []string{"a", "a~}b", "]^", manyBytes(60)} {
		frame := impl.FrameText(body)
		for at := range len(frame) {
			for by := 1; by < 256; by++ {
				b := []byte(frame)
				b[at] ^= byte(by)
				got := impl.FrameRead(string(b))
				if got.Code == impl.OK {
					if impl.FrameText(got.Text) != string(b) {
						t.Fatalf("%q is read as %+v, whose frame it is not", b, got)
					}
				} else if got != (impl.TextOut{Code: got.Code}) {
					t.Fatalf("FrameRead(%q) = %+v: more than a code", b, got)
				}
			}
		}
	}
}

func TestWireRight(t *testing.T) {
	for _, w := range rightWires() {
		if !impl.WireRight(w) {
			t.Errorf("WireRight(%+v) is false", w)
		}
	}
	for _, w := range wrongWires() {
		if impl.WireRight(w) {
			t.Errorf("WireRight(%.80v) is true", w)
		}
	}
}

func wrongWires() []impl.Wire {
	return []impl.Wire{
		{Esc: true},
		{Bad: true},
		{Esc: true, Bad: true},
		{Buf: "a"},
		{Buf: manyBytes(62)},
		{Esc: true, Buf: "a"},
		{In: true, Bad: true, Buf: "a"},
		{In: true, Bad: true, Buf: manyBytes(62)},
		{In: true, Esc: true, Bad: true, Buf: "a"},
		{In: true, Buf: manyBytes(63)},
		{In: true, Esc: true, Buf: manyBytes(63)},
		{In: true, Buf: manyBytes(impl.MaxBytes)},
		{In: true, Buf: manyBytes(impl.MaxBytes + 1)},
	}
}

func TestWireFeedFaults(t *testing.T) {
	tooLong := strings.Repeat("~", impl.MaxBytes+1)
	for _, w := range wrongWires() {
		for _, text := range []string{"", "~", "a", frameOf("ab"), tooLong[1:]} {
			if got := impl.WireFeed(w, text); !reflect.DeepEqual(got, impl.WireOut{Code: impl.ErrForm}) {
				t.Errorf("WireFeed(%.80v, %.20q) = %+v, want ErrForm and zeros", w, text, got)
			}
		}
		if got := impl.WireFeed(w, tooLong); !reflect.DeepEqual(got, impl.WireOut{Code: impl.ErrSize}) {
			t.Errorf("WireFeed(%.80v, too long) = %+v, want ErrSize and zeros", w, got)
		}
	}
	for _, w := range rightWires() {
		if got := impl.WireFeed(w, tooLong); !reflect.DeepEqual(got, impl.WireOut{Code: impl.ErrSize}) {
			t.Errorf("WireFeed(%+v, too long) = %+v, want ErrSize and zeros", w, got)
		}
	}
}

// fed is the document's words on WireFeed, byte by byte.
func fed(w impl.Wire, text string) (impl.Wire, []string) {
	var heard []string
	for i := range len(text) {
		b := text[i]
		switch {
		case b == 126:
			if n := len(w.Buf); w.In && !w.Esc && !w.Bad && n >= 3 && withCheck(w.Buf[:n-2]) == w.Buf {
				heard = append(heard, w.Buf[:n-2])
			}
			w = impl.Wire{In: true}
		case !w.In || w.Bad:
		case !w.Esc && b == 125:
			w.Esc = true
		default:
			if w.Esc {
				b ^= 32
				w.Esc = false
			}
			if len(w.Buf) == 62 {
				w.Bad, w.Buf = true, ""
			} else {
				w.Buf += string([]byte{b})
			}
		}
	}
	return w, heard
}

func sameTexts(a []string, b []string) bool {
	return len(a) == len(b) && (len(a) == 0 || reflect.DeepEqual(a, b))
}

func feedIs(t *testing.T, w impl.Wire, text string, wire impl.Wire, heard ...string) {
	t.Helper()
	got := impl.WireFeed(w, text)
	if got.Code != impl.OK || got.Wire != wire || !sameTexts(got.Heard, heard) {
		t.Errorf("WireFeed(%+v, %.80q) = %+v, want %+v and %q", w, text, got, wire, heard)
	}
}

func TestWireFeed(t *testing.T) {
	none, in := impl.Wire{}, impl.Wire{In: true}
	bad := impl.Wire{In: true, Bad: true}
	badEsc := impl.Wire{In: true, Esc: true, Bad: true}
	esc := impl.Wire{In: true, Esc: true}
	full := impl.Wire{In: true, Buf: manyBytes(62)}
	fullEsc := impl.Wire{In: true, Esc: true, Buf: manyBytes(62)}
	ab := frameOf("ab")
	feedIs(t, none, "", none)
	feedIs(t, none, "abc", none)
	feedIs(t, none, "}", none)
	feedIs(t, none, "}~", in)
	feedIs(t, none, "~~~~", in)
	feedIs(t, none, "~}", esc)
	feedIs(t, none, "~ab", impl.Wire{In: true, Buf: "ab"})
	feedIs(t, none, ab, in, "ab")
	feedIs(t, none, ab[:len(ab)-1], impl.Wire{In: true, Buf: withCheck("ab")})
	feedIs(t, none, ab[1:], in)
	feedIs(t, in, ab[1:], in, "ab")
	feedIs(t, none, ab+ab, in, "ab", "ab")
	feedIs(t, none, ab+frameOf("}~")[1:]+"x}", impl.Wire{In: true, Esc: true, Buf: "x"}, "ab", "}~")
	feedIs(t, none, ab+"xyz"+ab, in, "ab", "ab")
	// Two bytes are no body and check, though the check of nothing is right.
	feedIs(t, none, "~"+withCheck("")+"~", in)
	feedIs(t, none, "~x"+ab[2:], in)
	// An escape ahead of the flag spoils what was heard; a wire takes needless escapes.
	feedIs(t, none, ab[:len(ab)-1]+"}~", in)
	feedIs(t, none, ab[:len(ab)-1]+"}~"+ab[1:], in, "ab")
	feedIs(t, none, "~}A"+ab[2:], in, "ab")
	feedIs(t, none, "~}}", impl.Wire{In: true, Buf: "]"})
	feedIs(t, none, "~}}}", impl.Wire{In: true, Esc: true, Buf: "]"})
	feedIs(t, esc, "}", impl.Wire{In: true, Buf: "]"})
	feedIs(t, esc, "", esc)
	feedIs(t, esc, "~", in)
	feedIs(t, impl.Wire{In: true, Esc: true, Buf: withCheck("ab")}, "~", in)
	feedIs(t, impl.Wire{In: true, Buf: withCheck("ab")}, "~", in, "ab")
	// The 63rd byte is too much, an escape alone is not yet one.
	feedIs(t, full, "", full)
	feedIs(t, full, "a", bad)
	feedIs(t, full, "}", fullEsc)
	feedIs(t, fullEsc, "a", bad)
	feedIs(t, fullEsc, "}", bad)
	feedIs(t, fullEsc, "~", in)
	feedIs(t, full, "aab}c", bad)
	feedIs(t, full, "a~", in)
	feedIs(t, impl.Wire{In: true, Buf: manyBytes(61)}, "\xb2", impl.Wire{In: true, Buf: manyBytes(61) + "\xb2"})
	feedIs(t, bad, "", bad)
	feedIs(t, bad, "}", bad)
	feedIs(t, bad, "abc}", bad)
	feedIs(t, bad, ab, in, "ab")
	feedIs(t, bad, "~"+strings.Repeat("a", 63), bad)
	feedIs(t, badEsc, "", badEsc)
	feedIs(t, badEsc, "abc}", badEsc)
	feedIs(t, badEsc, "~", in)
	feedIs(t, badEsc, "~"+strings.Repeat("a", 63), bad)
	feedIs(t, badEsc, "x"+ab+"}", esc, "ab")
	longest := manyBytes(impl.MaxBody)
	feedIs(t, none, frameOf(longest), in, longest)
	feedIs(t, none, frameOf(manyBytes(impl.MaxBody+1)), in)
	feedIs(t, none, "~"+strings.Repeat("z", 63), bad)
	feedIs(t, none, strings.Repeat("a", impl.MaxBytes), none)
	feedIs(t, none, strings.Repeat("~", impl.MaxBytes), in)
}

// More than MaxList frames may be in one text: all of them are heard.
func TestManyFramesAreHeard(t *testing.T) {
	one := escaped(withCheck("a")) + "~"
	many := (impl.MaxBytes - 1) / len(one)
	got := impl.WireFeed(impl.Wire{}, "~"+strings.Repeat(one, many))
	if got.Code != impl.OK || len(got.Heard) != many || many <= impl.MaxList || got.Wire != (impl.Wire{In: true}) {
		t.Errorf("of %d frames %d are heard, code %d, %+v", many, len(got.Heard), got.Code, got.Wire)
	}
	for _, body := range got.Heard {
		if body != "a" {
			t.Fatalf("heard %q", body)
		}
	}
}

func TestBodyIsHeardWhateverWasAhead(t *testing.T) {
	ahead := []string{"", "x", "}", "~", "~}", "~ab", "a}~b}", frameOf("other"), frameOf("other")[:5], "~" + strings.Repeat("a", 62), "~" + strings.Repeat("a", 63), strings.Repeat("}", 200)}
	for _, w := range rightWires() {
		for _, a := range ahead {
			before := impl.WireFeed(w, a)
			if before.Code != impl.OK || !impl.WireRight(before.Wire) {
				t.Fatalf("WireFeed(%+v, %q) = %+v", w, a, before)
			}
			for _, body := range bodiesOf() {
				got := impl.WireFeed(before.Wire, impl.FrameText(body))
				n := len(got.Heard)
				if got.Code != impl.OK || n == 0 || n > 2 || got.Heard[n-1] != body || got.Wire != (impl.Wire{In: true}) {
					t.Fatalf("behind %+v and %q, of the frame of %q: %+v", w, a, body, got)
				}
			}
		}
	}
}

func TestHeardInParts(t *testing.T) {
	text := "x}" + frameOf("a~}b") + frameOf("c")[1:] + "junk}~" + strings.Repeat("z", 70) + frameOf(manyBytes(60)) + "ab}"
	for _, w := range rightWires() {
		wantWire, wantHeard := fed(w, text)
		feedIs(t, w, text, wantWire, wantHeard...)
		for cut := range len(text) + 1 {
			a := impl.WireFeed(w, text[:cut])
			b := impl.WireFeed(a.Wire, text[cut:])
			heard := append(append([]string{}, a.Heard...), b.Heard...)
			if a.Code != impl.OK || b.Code != impl.OK || b.Wire != wantWire || !sameTexts(heard, wantHeard) {
				t.Fatalf("%+v, cut at %d: %+v and %+v, want %+v and %q", w, cut, a, b, wantWire, wantHeard)
			}
		}
	}
}

// Each wire hears each text of up to three bytes of these as the document says.
func TestWireFeedByTheWords(t *testing.T) {
	some := "~}^]a\x00 "
	for _, w := range rightWires() {
		for i := range len(some) * len(some) * len(some) {
			text := string([]byte{some[i%len(some)], some[i/len(some)%len(some)], some[i/len(some)/len(some)]})
			wire, heard := fed(w, text)
			feedIs(t, w, text, wire, heard...)
		}
	}
}

func FuzzWire(f *testing.F) {
	f.Add(true, false, false, "ab", "~a}^}]b")
	f.Add(false, false, false, "", frameOf("a~}b")+"}~")
	f.Add(true, true, true, "", "~"+strings.Repeat("a", 63))
	f.Fuzz(func(t *testing.T, in bool, esc bool, bad bool, buf string, text string) {
		w := impl.Wire{In: in, Esc: esc, Bad: bad, Buf: buf}
		if len(text) <= impl.MaxBytes && impl.WireRight(w) {
			wire, heard := fed(w, text)
			feedIs(t, w, text, wire, heard...)
		}
		if r := impl.FrameRead(text); r.Code == impl.OK && impl.FrameText(r.Text) != text {
			t.Errorf("FrameRead(%q) = %+v", text, r)
		} else if r.Code != impl.OK && r != (impl.TextOut{Code: r.Code}) {
			t.Errorf("FrameRead(%q) = %+v: more than a code", text, r)
		}
	})
}
