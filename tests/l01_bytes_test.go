package tests

import (
	"hash/crc32"
	"math"
	"strings"
	"testing"

	"loop.example/g00556/impl"
)

// edgeNumbers are the numbers around which the count of bytes grows, and the ends of int64.
func edgeNumbers() []int64 {
	l := []int64{0, math.MaxInt64, math.MinInt64, math.MaxInt64 - 1, math.MinInt64 + 1}
	for bit := range 63 {
		p := int64(1) << bit
		l = append(l, p-1, p, p+1, -p+1, -p, -p-1)
	}
	return l
}

// manyBytes is a text of so many bytes, of all kinds of bytes.
func manyBytes(n int) string {
	b := make([]byte, n)
	for i := range b {
		b[i] = byte(i*7 + i/256)
	}
	return string(b)
}

func TestPutNumBytes(t *testing.T) {
	for _, c := range []struct {
		n    int64
		want string
	}{
		{0, "\x00"},
		{-1, "\x01"},
		{1, "\x02"},
		{63, "\x7e"},
		{-64, "\x7f"},
		{64, "\x80\x01"},
		{-65, "\x81\x01"},
		{8191, "\xfe\x7f"},
		{-8192, "\xff\x7f"},
		{8192, "\x80\x80\x01"},
		{1<<62 - 1, "\xfe\xff\xff\xff\xff\xff\xff\xff\x7f"},
		{-1 << 62, "\xff\xff\xff\xff\xff\xff\xff\xff\x7f"},
		{1 << 62, "\x80\x80\x80\x80\x80\x80\x80\x80\x80\x01"},
		{math.MaxInt64, "\xfe\xff\xff\xff\xff\xff\xff\xff\xff\x01"},
		{math.MinInt64, "\xff\xff\xff\xff\xff\xff\xff\xff\xff\x01"},
	} {
		if got := impl.PutNum(c.n); got != c.want {
			t.Errorf("PutNum(%d) = %q, want %q", c.n, got, c.want)
		}
	}
}

func TestNumbersComeBack(t *testing.T) {
	for _, n := range edgeNumbers() {
		b := impl.PutNum(n)
		if len(b) < 1 || len(b) > 10 {
			t.Errorf("PutNum(%d) has %d bytes", n, len(b))
		}
		for _, ahead := range []string{"", "x", "\xff\x80"} {
			for _, behind := range []string{"", "\x00", "\x80\xff"} {
				got := impl.GetNum(ahead+b+behind, int64(len(ahead)))
				want := impl.NumOut{N: n, At: int64(len(ahead) + len(b))}
				if got != want {
					t.Errorf("GetNum of %q behind %q, ahead of %q = %+v, want %+v", b, ahead, behind, got, want)
				}
			}
		}
		for cut := range len(b) {
			if got := impl.GetNum(b[:cut], 0); got != (impl.NumOut{Code: impl.ErrShort}) {
				t.Errorf("GetNum(%q) = %+v, want ErrShort", b[:cut], got)
			}
		}
	}
}

// Each text of up to two bytes that is a number is the PutNum of it: no number is written in two ways.
func TestNumbersAreWrittenOneWay(t *testing.T) {
	for a := range 256 {
		for b := range 256 {
			text := string([]byte{byte(a), byte(b)})
			got := impl.GetNum(text, 0)
			if got.Code == impl.OK && impl.PutNum(got.N) != text[:got.At] {
				t.Errorf("GetNum(%q) = %+v, whose bytes are %q", text, got, impl.PutNum(got.N))
			}
			if (got.Code == impl.OK) != (a < 128 || b > 0 && b < 128) {
				t.Errorf("GetNum(%q) = %+v", text, got)
			}
		}
	}
}

func TestGetNumFaults(t *testing.T) {
	nine := strings.Repeat("\x80", 9)
	for _, c := range []struct {
		text string
		at   int64
		want int64
	}{
		{"", 0, impl.ErrShort},
		{"\x00", 1, impl.ErrShort},
		{"\x00", 2, impl.ErrShort},
		{"\x00", math.MaxInt64, impl.ErrShort},
		{"\x00", -1, impl.ErrForm},
		{"", -1, impl.ErrForm},
		{"\x80\x00", math.MinInt64, impl.ErrForm},
		{"\x80", 0, impl.ErrShort},
		{nine, 0, impl.ErrShort},
		{nine + "\x00", 0, impl.ErrSyntax},
		{nine + "\x02", 0, impl.ErrSyntax},
		{nine + "\x7f", 0, impl.ErrSyntax},
		{nine + "\x80", 0, impl.ErrSyntax},
		{nine + "\x81", 0, impl.ErrSyntax},
		{nine + "\x80\x00", 0, impl.ErrSyntax},
		{nine + "\x81\x01", 0, impl.ErrSyntax},
		{nine + "\xff", 0, impl.ErrSyntax},
		{strings.Repeat("\xff", 9), 0, impl.ErrShort},
		{"\x80\x00", 0, impl.ErrSyntax},
		{"\x81\x00", 0, impl.ErrSyntax},
		{"\xff\xff\x00", 0, impl.ErrSyntax},
		{"\x80\x80", 0, impl.ErrShort},
		{"\x01\x80\x00", 1, impl.ErrSyntax},
		{strings.Repeat("\x00", impl.MaxBytes+1), 0, impl.ErrSize},
		{strings.Repeat("\x00", impl.MaxBytes+1), -1, impl.ErrSize},
		{strings.Repeat("\x80", impl.MaxBytes+1), 0, impl.ErrSize},
		{strings.Repeat("\x80", impl.MaxBytes+1), impl.MaxBytes + 1, impl.ErrSize},
	} {
		if got := impl.GetNum(c.text, c.at); got != (impl.NumOut{Code: c.want}) {
			t.Errorf("GetNum(%.20q.., %d) = %+v, want code %d and zeros", c.text, c.at, got, c.want)
		}
		// What is no number is no length either, and is told alike.
		if got := impl.GetText(c.text, c.at); got != (impl.TextOut{Code: c.want}) {
			t.Errorf("GetText(%.20q.., %d) = %+v, want code %d and zeros", c.text, c.at, got, c.want)
		}
	}
}

func TestGetNumAtTheLimit(t *testing.T) {
	text := strings.Repeat("\x00", impl.MaxBytes-1) + "\x02"
	want := impl.NumOut{N: 1, At: impl.MaxBytes}
	if got := impl.GetNum(text, impl.MaxBytes-1); got != want {
		t.Errorf("the last number of a text of MaxBytes = %+v, want %+v", got, want)
	}
}

func TestPutTextBytes(t *testing.T) {
	for _, c := range []struct{ text, want string }{
		{"", "\x00"},
		{"ab", "\x04ab"},
		{"\x00\xff", "\x04\x00\xff"},
		{strings.Repeat("z", 63), "\x7e" + strings.Repeat("z", 63)},
		{strings.Repeat("z", 64), "\x80\x01" + strings.Repeat("z", 64)},
		{strings.Repeat("z", impl.MaxBytes), "\x80\x7d" + strings.Repeat("z", impl.MaxBytes)},
		{strings.Repeat("z", impl.MaxBytes+1), ""},
	} {
		if got := impl.PutText(c.text); got != c.want {
			t.Errorf("PutText of %d bytes = %.20q, want %.20q", len(c.text), got, c.want)
		}
	}
}

func TestTextsComeBack(t *testing.T) {
	// With the two bytes of its length, 7998 is the longest that still fits into MaxBytes.
	for _, n := range []int{0, 1, 2, 63, 64, 65, 127, 128, 300, impl.MaxBytes - 3, impl.MaxBytes - 2} {
		b := impl.PutText(manyBytes(n))
		want := impl.TextOut{Text: manyBytes(n), At: int64(len(b))}
		if got := impl.GetText(b, 0); got != want {
			t.Errorf("a text of %d bytes comes back with %d bytes, At %d, code %d", n, len(got.Text), got.At, got.Code)
		}
		if n > 300 {
			continue
		}
		want.At += 2
		if got := impl.GetText("\xff\x80"+b+"behind", 2); got != want {
			t.Errorf("a text of %d bytes, among others, comes back with %d bytes, At %d, code %d", n, len(got.Text), got.At, got.Code)
		}
		for cut := range len(b) {
			if got := impl.GetText(b[:cut], 0); got != (impl.TextOut{Code: impl.ErrShort}) {
				t.Errorf("the first %d bytes of a text of %d = %+v, want ErrShort", cut, n, got)
			}
		}
	}
	if got := impl.GetText(impl.PutText(manyBytes(impl.MaxBytes-1)), 0); got != (impl.TextOut{Code: impl.ErrSize}) {
		t.Errorf("a text that doesn't fit in: code %d, want ErrSize", got.Code)
	}
}

func TestGetTextFaults(t *testing.T) {
	for _, c := range []struct {
		text string
		at   int64
		want int64
	}{
		{"\x01", 0, impl.ErrSyntax},
		{"\x01ab", 0, impl.ErrSyntax},
		{impl.PutNum(impl.MaxBytes), 0, impl.ErrShort},
		{impl.PutNum(impl.MaxBytes + 1), 0, impl.ErrSyntax},
		{impl.PutNum(impl.MaxBytes+1) + strings.Repeat("a", 7000), 0, impl.ErrSyntax},
		{impl.PutNum(math.MaxInt64), 0, impl.ErrSyntax},
		{impl.PutNum(math.MinInt64), 0, impl.ErrSyntax},
		{"\x02", 0, impl.ErrShort},
		{"\x06ab", 0, impl.ErrShort},
		{"x\x06ab", 1, impl.ErrShort},
		{"\x84\x00ab", 0, impl.ErrSyntax},
		{"\x04ab", 3, impl.ErrShort},
		{"\x04ab", 4, impl.ErrShort},
		{"\x04ab", -1, impl.ErrForm},
		{"\x04ab" + strings.Repeat("c", impl.MaxBytes-2), 0, impl.ErrSize},
		{"\x04ab" + strings.Repeat("c", impl.MaxBytes-2), -1, impl.ErrSize},
	} {
		if got := impl.GetText(c.text, c.at); got != (impl.TextOut{Code: c.want}) {
			t.Errorf("GetText(%.20q.., %d) = %+v, want code %d and zeros", c.text, c.at, got, c.want)
		}
	}
	full := "\x04ab" + strings.Repeat("c", impl.MaxBytes-3)
	if got := impl.GetText(full, 0); got != (impl.TextOut{Text: "ab", At: 3}) {
		t.Errorf("GetText of MaxBytes bytes = %+v", got)
	}
}

func TestNameRight(t *testing.T) {
	for _, name := range []string{"a", "z", "az", "a0", "a9", "a_", "a_9", "z__", strings.Repeat("b", 20)} {
		if !impl.NameRight(name) {
			t.Errorf("NameRight(%q) is false", name)
		}
	}
	for _, name := range []string{"", "_", "_a", "0", "9a", "A", "aA", "aZ", "a b", "a-", "a\x00", "a\n", "a`", "a{", "`", "{", "a/", "a:", "\xe4", "a\xe4", "ä", strings.Repeat("b", 21), strings.Repeat("b", impl.MaxBytes+1)} {
		if impl.NameRight(name) {
			t.Errorf("NameRight(%.30q) is true", name)
		}
	}
}

func TestCrc(t *testing.T) {
	if got := impl.Crc("123456789"); got != 0xCBF43926 {
		t.Errorf("Crc = %x", got)
	}
	for _, n := range []int{0, 1, 2, 3, 4, 255, 256, 257, 3000, impl.MaxBytes} {
		text := manyBytes(n)
		if got, want := impl.Crc(text), int64(crc32.ChecksumIEEE([]byte(text))); got != want {
			t.Errorf("Crc of %d bytes = %d, want %d", n, got, want)
		}
	}
	for b := range 256 {
		text := string([]byte{byte(b)})
		if got, want := impl.Crc(text), int64(crc32.ChecksumIEEE([]byte(text))); got != want {
			t.Errorf("Crc(%q) = %d, want %d", text, got, want)
		}
	}
	if got := impl.Crc(manyBytes(impl.MaxBytes + 1)); got != 0 {
		t.Errorf("Crc of more than MaxBytes = %d", got)
	}
}

func TestCrcGoesOn(t *testing.T) {
	text := manyBytes(300)
	for cut := range 301 {
		if got := impl.CrcMore(impl.Crc(text[:cut]), text[cut:]); got != impl.Crc(text) {
			t.Errorf("cut at %d: %d, want %d", cut, got, impl.Crc(text))
		}
	}
	half := manyBytes(impl.MaxBytes)
	want := int64(crc32.ChecksumIEEE([]byte(half + half)))
	if got := impl.CrcMore(impl.Crc(half), half); got != want {
		t.Errorf("the CRC of two texts of MaxBytes = %d, want %d", got, want)
	}
}

func TestCrcMoreEdges(t *testing.T) {
	const top = 1<<32 - 1
	for _, c := range []struct {
		crc  int64
		text string
		want int64
	}{
		{0, "", 0},
		{1, "", 1},
		{top, "", top},
		{top, "a", int64(crc32.Update(top, crc32.IEEETable, []byte("a")))},
		{top + 1, "", 0},
		{top + 1, "a", 0},
		{top + 2, "a", 0},
		{-1, "", 0},
		{-1, "a", 0},
		{math.MinInt64, "a", 0},
		{math.MaxInt64, "a", 0},
		{5, strings.Repeat("a", impl.MaxBytes+1), 0},
		{-5, strings.Repeat("a", impl.MaxBytes+1), 0},
	} {
		if got := impl.CrcMore(c.crc, c.text); got != c.want {
			t.Errorf("CrcMore(%d, %.10q) = %d, want %d", c.crc, c.text, got, c.want)
		}
	}
}

func TestSealBytes(t *testing.T) {
	for _, c := range []struct{ text, want string }{
		{"", "\x00\x00\x00\x00"},
		{"123456789", "123456789\x26\x39\xf4\xcb"},
		{strings.Repeat("s", impl.MaxBytes-3), ""},
		{strings.Repeat("s", impl.MaxBytes), ""},
		{strings.Repeat("s", impl.MaxBytes+1), ""},
	} {
		if got := impl.Seal(c.text); got != c.want {
			t.Errorf("Seal(%.20q) = %q, want %q", c.text, got, c.want)
		}
	}
}

func TestSealedComesBack(t *testing.T) {
	for _, n := range []int{0, 1, 3, 4, 5, 100, impl.MaxBytes - 5, impl.MaxBytes - 4} {
		text := manyBytes(n)
		sealed := impl.Seal(text)
		if len(sealed) != n+4 {
			t.Errorf("the seal of %d bytes has %d", n, len(sealed))
		}
		if got := impl.Unseal(sealed); got != (impl.TextOut{Text: text}) {
			t.Errorf("a sealed text of %d bytes comes back with %d bytes, At %d, code %d", n, len(got.Text), got.At, got.Code)
		}
	}
}

func TestTurnedByteIsRefused(t *testing.T) {
	for _, text := range []string{"", "a", "who may speak", manyBytes(40)} {
		sealed := impl.Seal(text)
		for at := range len(sealed) {
			for by := 1; by < 256; by++ {
				b := []byte(sealed)
				b[at] ^= byte(by)
				if got := impl.Unseal(string(b)); got != (impl.TextOut{Code: impl.ErrSum}) {
					t.Fatalf("Seal(%q), byte %d turned by %d: %+v, want ErrSum", text, at, by, got)
				}
			}
		}
	}
}

func TestUnsealFaults(t *testing.T) {
	for _, c := range []struct {
		text string
		want int64
	}{
		{"", impl.ErrShort},
		{"\x00", impl.ErrShort},
		{"\x00\x00\x00", impl.ErrShort},
		{"\x00\x00\x00\x01", impl.ErrSum},
		{"\x00\x00\x00\x00\x00", impl.ErrSum},
		{"123456789\xcb\xf4\x39\x26", impl.ErrSum},
		{"123456789\x26\x39\xf4\xcb\x00", impl.ErrSum},
		{strings.Repeat("s", impl.MaxBytes), impl.ErrSum},
		{strings.Repeat("s", impl.MaxBytes+1), impl.ErrSize},
	} {
		if got := impl.Unseal(c.text); got != (impl.TextOut{Code: c.want}) {
			t.Errorf("Unseal(%.20q) = %+v, want code %d and zeros", c.text, got, c.want)
		}
	}
	whole := manyBytes(impl.MaxBytes - 3)
	sum := crc32.ChecksumIEEE([]byte(whole))
	long := whole + string([]byte{byte(sum), byte(sum >> 8), byte(sum >> 16), byte(sum >> 24)})
	if got := impl.Unseal(long); got != (impl.TextOut{Code: impl.ErrSize}) {
		t.Errorf("a text of MaxBytes and one with its CRC: code %d, want ErrSize", got.Code)
	}
}

func FuzzBytes(f *testing.F) {
	f.Add("\x04ab", int64(0))
	f.Add("\x80\x80\x80\x80\x80\x80\x80\x80\x80\x01", int64(0))
	f.Add("\x80\x00", int64(-1))
	f.Fuzz(func(t *testing.T, text string, at int64) {
		if n := impl.GetNum(text, at); n.Code == impl.OK && text[at:n.At] != impl.PutNum(n.N) {
			t.Errorf("GetNum(%q, %d) = %+v", text, at, n)
		} else if n.Code != impl.OK && n != (impl.NumOut{Code: n.Code}) {
			t.Errorf("GetNum(%q, %d) = %+v: more than a code", text, at, n)
		}
		if x := impl.GetText(text, at); x.Code == impl.OK && text[at:x.At] != impl.PutText(x.Text) {
			t.Errorf("GetText(%q, %d) = %+v", text, at, x)
		} else if x.Code != impl.OK && x != (impl.TextOut{Code: x.Code}) {
			t.Errorf("GetText(%q, %d) = %+v: more than a code", text, at, x)
		}
		if u := impl.Unseal(text); u.Code == impl.OK && impl.Seal(u.Text) != text {
			t.Errorf("Unseal(%q) = %+v", text, u)
		}
	})
}
