package tests

import (
	"encoding/binary"
	"math"
	"reflect"
	"strings"
	"testing"

	"loop.example/g00556/impl"
)

// edgeTimes are times and what is just outside of them.
func edgeTimes() []int64 {
	return []int64{math.MinInt64, -1, 0, 1, 2, impl.MaxTime - 1, impl.MaxTime, impl.MaxTime + 1, math.MaxInt64}
}

// edgeAddresses are addresses and what is just outside of them.
func edgeAddresses() []int64 {
	return []int64{math.MinInt64, -1, 0, 1, 2, 7, 8, 9, math.MaxInt64}
}

func within(n int64, low int64, high int64) bool {
	return low <= n && n <= high
}

func stampIsRight(s impl.Stamp) bool {
	if s == (impl.Stamp{}) {
		return true
	}
	return within(s.Gen, 0, 1000000) && within(s.Origin, 1, 8) && within(s.Boot, 0, 1000000) && within(s.Hop, 0, 1000000)
}

// edgeStamps are all stamps of edges, right and not right.
func edgeStamps() []impl.Stamp {
	var l []impl.Stamp
	for _, gen := range edgeTimes() {
		for _, origin := range edgeAddresses() {
			for _, boot := range edgeTimes() {
				for _, hop := range edgeTimes() {
					l = append(l, impl.Stamp{Gen: gen, Origin: origin, Boot: boot, Hop: hop})
				}
			}
		}
	}
	return l
}

// rightStamps are stamps that differ in one field or in several, the one way and the other.
func rightStamps() []impl.Stamp {
	l := []impl.Stamp{{}}
	some := []int64{0, 1, impl.MaxTime}
	for _, gen := range some {
		for _, origin := range []int64{1, 2, 8} {
			for _, boot := range some {
				for _, hop := range some {
					l = append(l, impl.Stamp{Gen: gen, Origin: origin, Boot: boot, Hop: hop})
				}
			}
		}
	}
	return l
}

func wrongStamps() []impl.Stamp {
	return []impl.Stamp{
		{Gen: 1},
		{Boot: 1},
		{Hop: 1},
		{Gen: impl.MaxTime, Boot: impl.MaxTime, Hop: impl.MaxTime},
		{Origin: -1},
		{Origin: 9},
		{Gen: 1, Origin: 9, Boot: 1, Hop: 1},
		{Gen: -1, Origin: 1},
		{Gen: impl.MaxTime + 1, Origin: 1},
		{Origin: 1, Boot: -1},
		{Origin: 1, Boot: impl.MaxTime + 1},
		{Origin: 8, Hop: -1},
		{Origin: 8, Hop: impl.MaxTime + 1},
		{Gen: math.MinInt64, Origin: math.MinInt64, Boot: math.MinInt64, Hop: math.MinInt64},
		{Gen: math.MaxInt64, Origin: math.MaxInt64, Boot: math.MaxInt64, Hop: math.MaxInt64},
	}
}

// rankOf is a stamp as one number: what counts less has the smaller part in it. It fits, for right stamps.
func rankOf(s impl.Stamp) int64 {
	return ((s.Gen*9+s.Origin)*(impl.MaxTime+1)+s.Boot)*(impl.MaxTime+1) + s.Hop
}

func TestStampRight(t *testing.T) {
	for _, s := range edgeStamps() {
		if got := impl.StampRight(s); got != stampIsRight(s) {
			t.Errorf("StampRight(%+v) = %v", s, got)
		}
	}
	for _, s := range rightStamps() {
		if !impl.StampRight(s) {
			t.Errorf("StampRight(%+v) is false", s)
		}
	}
	for _, s := range wrongStamps() {
		if impl.StampRight(s) {
			t.Errorf("StampRight(%+v) is true", s)
		}
	}
}

func TestStampLess(t *testing.T) {
	for _, c := range []struct {
		a, b impl.Stamp
	}{
		{impl.Stamp{}, impl.Stamp{Origin: 1}},
		{impl.Stamp{Gen: 1, Origin: 8, Boot: 9, Hop: 9}, impl.Stamp{Gen: 2, Origin: 1}},
		{impl.Stamp{Gen: 1, Origin: 2, Boot: 9, Hop: 9}, impl.Stamp{Gen: 1, Origin: 3}},
		{impl.Stamp{Gen: 1, Origin: 2, Boot: 3, Hop: 9}, impl.Stamp{Gen: 1, Origin: 2, Boot: 4}},
		{impl.Stamp{Gen: 1, Origin: 2, Boot: 3, Hop: 4}, impl.Stamp{Gen: 1, Origin: 2, Boot: 3, Hop: 5}},
	} {
		if !impl.StampLess(c.a, c.b) || impl.StampLess(c.b, c.a) {
			t.Errorf("%+v is not below %+v, or the other way round", c.a, c.b)
		}
	}
}

func TestJustOneStampIsBelow(t *testing.T) {
	for _, a := range rightStamps() {
		for _, b := range rightStamps() {
			less, more := impl.StampLess(a, b), impl.StampLess(b, a)
			if a == b && (less || more) {
				t.Fatalf("%+v is below itself", a)
			}
			if a != b && less == more {
				t.Fatalf("of %+v and %+v not just one is below the other", a, b)
			}
			if less != (rankOf(a) < rankOf(b)) {
				t.Fatalf("StampLess(%+v, %+v) = %v", a, b, less)
			}
		}
	}
}

func TestStampLessOfWrongOnes(t *testing.T) {
	for _, wrong := range wrongStamps() {
		for _, other := range append(rightStamps(), wrongStamps()...) {
			if impl.StampLess(wrong, other) || impl.StampLess(other, wrong) {
				t.Fatalf("StampLess of %+v and %+v holds, one of them is not right", wrong, other)
			}
		}
	}
}

func TestKinds(t *testing.T) {
	got := []int64{impl.SyClaim, impl.SyToken, impl.SyPoll, impl.SyHere, impl.SyData}
	if !reflect.DeepEqual(got, []int64{1, 2, 3, 4, 5}) {
		t.Errorf("the kinds are %v", got)
	}
}

// sayForm is what a kind may have, beside From and Stamp.
type sayForm struct {
	to, words, body, none bool
}

func formOf(kind int64) (sayForm, bool) {
	form, ok := map[int64]sayForm{
		1: {},
		2: {to: true, words: true},
		3: {to: true},
		4: {to: true, none: true},
		5: {to: true, body: true},
	}[kind]
	return form, ok
}

// sayIsRight is the document's words on a right Say.
func sayIsRight(s impl.Say) bool {
	form, ok := formOf(s.Kind)
	if !ok || !within(s.From, 1, 8) || !stampIsRight(s.Stamp) || s.Stamp.Origin == 0 && !form.none {
		return false
	}
	if form.to && (!within(s.To, 1, 8) || s.To == s.From) || !form.to && s.To != 0 {
		return false
	}
	if len(s.Words) > 4 || len(s.Words) > 0 && !form.words {
		return false
	}
	for _, n := range s.Words {
		if !within(n, 0, 65535) {
			return false
		}
	}
	return form.body && within(int64(len(s.Body)), 1, 20) || !form.body && s.Body == ""
}

// sayBytesOf are the bytes of a Say that may be wrong, by the library's numbers.
func sayBytesOf(s impl.Say) string {
	b := numsBytes(s.Kind, s.From, s.To, s.Stamp.Gen, s.Stamp.Origin, s.Stamp.Boot, s.Stamp.Hop, int64(len(s.Words)))
	return b + numsBytes(s.Words...) + numsBytes(int64(len(s.Body))) + s.Body
}

func numsBytes(nums ...int64) string {
	var b []byte
	for _, n := range nums {
		b = binary.AppendVarint(b, n)
	}
	return string(b)
}

func edgeWords() [][]int64 {
	return [][]int64{
		nil, {}, {0}, {7}, {65535}, {-1}, {65536}, {math.MinInt64}, {math.MaxInt64},
		{1, 2, 3, 4}, {0, 0, 0, 0}, {65535, 65535, 65535, 65535},
		{0, 65535, 0, 65536}, {0, -1, 0, 0}, {65536, 0, 0, 0},
		{0, 0, 0, 0, 0}, make([]int64, impl.MaxList), make([]int64, impl.MaxList+1),
	}
}

func edgeBodies() []string {
	return []string{"", "x", "\x00", "\xff", "ab", manyBytes(19), manyBytes(20), manyBytes(21), manyBytes(impl.MaxBytes), manyBytes(impl.MaxBytes + 1)}
}

// edgeSays are all Says of edges: each kind, and none, with each field at its ends and just outside.
func edgeSays() []impl.Say {
	stamps := append([]impl.Stamp{
		{},
		{Origin: 1},
		{Origin: 8},
		{Gen: 1, Origin: 2, Boot: 3, Hop: 4},
		{Gen: impl.MaxTime, Origin: 8, Boot: impl.MaxTime, Hop: impl.MaxTime},
	}, wrongStamps()...)
	words, bodies := edgeWords(), edgeBodies()
	var l []impl.Say
	for _, kind := range []int64{math.MinInt64, -1, 0, 1, 2, 3, 4, 5, 6, math.MaxInt64} {
		for _, from := range edgeAddresses() {
			for _, to := range edgeAddresses() {
				s := impl.Say{Kind: kind, From: from, To: to}
				for _, s.Stamp = range stamps {
					for _, s.Words = range words[:7] {
						for _, s.Body = range bodies[:2] {
							l = append(l, s)
						}
					}
				}
			}
		}
		s := impl.Say{Kind: kind, From: 1}
		for _, s.To = range []int64{0, 1, 2} {
			for _, s.Stamp = range stamps[:6] {
				for _, s.Words = range words {
					for _, s.Body = range bodies {
						l = append(l, s)
					}
				}
			}
		}
	}
	return l
}

// rightSays are right ones of each kind, the shortest and the longest among them.
func rightSays() []impl.Say {
	low, high := impl.Stamp{Origin: 1}, impl.Stamp{Gen: impl.MaxTime, Origin: 8, Boot: impl.MaxTime, Hop: impl.MaxTime}
	return []impl.Say{
		{Kind: impl.SyClaim, From: 1, Stamp: low},
		{Kind: impl.SyClaim, From: 8, Stamp: high},
		{Kind: impl.SyToken, From: 1, To: 2, Stamp: low},
		{Kind: impl.SyToken, From: 1, To: 2, Stamp: low, Words: []int64{0}},
		{Kind: impl.SyToken, From: 8, To: 1, Stamp: high, Words: []int64{65535, 65535, 65535, 65535}},
		{Kind: impl.SyToken, From: 3, To: 8, Stamp: high, Words: []int64{63, 64, 8191, 8192}},
		{Kind: impl.SyPoll, From: 2, To: 1, Stamp: low},
		{Kind: impl.SyPoll, From: 7, To: 8, Stamp: high},
		{Kind: impl.SyHere, From: 1, To: 8},
		{Kind: impl.SyHere, From: 1, To: 8, Stamp: low},
		{Kind: impl.SyHere, From: 8, To: 7, Stamp: high},
		{Kind: impl.SyData, From: 1, To: 2, Stamp: low, Body: "\x00"},
		{Kind: impl.SyData, From: 8, To: 1, Stamp: high, Body: manyBytes(20)},
		{Kind: impl.SyData, From: 4, To: 5, Stamp: impl.Stamp{Gen: 64, Origin: 4, Boot: 63, Hop: 8192}, Body: "who may speak"},
	}
}

// sameSay takes an empty list and none for the same.
func sameSay(a impl.Say, b impl.Say) bool {
	if len(a.Words) == 0 && len(b.Words) == 0 {
		a.Words, b.Words = nil, nil
	}
	return reflect.DeepEqual(a, b)
}

func isCode(got impl.SayOut, code int64) bool {
	return got.Code == code && len(got.Say.Words) == 0 && sameSay(got.Say, impl.Say{})
}

func TestSayRight(t *testing.T) {
	for _, s := range rightSays() {
		if !impl.SayRight(s) {
			t.Errorf("SayRight(%+v) is false", s)
		}
	}
	right := 0
	for _, s := range edgeSays() {
		want := sayIsRight(s)
		if got := impl.SayRight(s); got != want {
			t.Fatalf("SayRight(%.200v) = %v", s, got)
		}
		if want {
			right++
		}
	}
	if right < 500 {
		t.Errorf("just %d of the edges are right", right)
	}
}

func TestSayBytes(t *testing.T) {
	for _, c := range []struct {
		say  impl.Say
		want string
	}{
		{impl.Say{Kind: impl.SyClaim, From: 1, Stamp: impl.Stamp{Gen: 1, Origin: 1}}, "\x02\x02\x00\x02\x02\x00\x00\x00\x00"},
		{impl.Say{Kind: impl.SyToken, From: 1, To: 2, Stamp: impl.Stamp{Gen: 3, Origin: 4, Boot: 5, Hop: 6}, Words: []int64{7, 64}}, "\x04\x02\x04\x06\x08\x0a\x0c\x04\x0e\x80\x01\x00"},
		{impl.Say{Kind: impl.SyPoll, From: 8, To: 7, Stamp: impl.Stamp{Gen: impl.MaxTime, Origin: 8}}, "\x06\x10\x0e\x80\x89\x7a\x10\x00\x00\x00\x00"},
		{impl.Say{Kind: impl.SyHere, From: 2, To: 1}, "\x08\x04\x02\x00\x00\x00\x00\x00\x00"},
		{impl.Say{Kind: impl.SyData, From: 1, To: 2, Stamp: impl.Stamp{Origin: 1}, Body: "hey"}, "\x0a\x02\x04\x00\x02\x00\x00\x00\x06hey"},
	} {
		if got := impl.SayBytes(c.say); got != c.want {
			t.Errorf("SayBytes(%+v) = %q, want %q", c.say, got, c.want)
		}
	}
	for _, s := range rightSays() {
		if got := impl.SayBytes(s); got != sayBytesOf(s) {
			t.Errorf("SayBytes(%+v) = %q, want %q", s, got, sayBytesOf(s))
		}
	}
}

func TestWhatIsSaidComesBack(t *testing.T) {
	for _, s := range append(rightSays(), edgeSays()...) {
		want, bytes := "", sayBytesOf(s)
		if sayIsRight(s) {
			want = bytes
		}
		if got := impl.SayBytes(s); got != want {
			t.Fatalf("SayBytes(%.200v) = %q, want %q", s, got, want)
		}
		back := impl.SayRead(bytes)
		switch {
		case len(bytes) > impl.MaxBytes:
			if !isCode(back, impl.ErrSize) {
				t.Fatalf("SayRead of %d bytes = %+v, want ErrSize and zeros", len(bytes), back)
			}
		case want == "":
			if !isCode(back, impl.ErrSyntax) {
				t.Fatalf("SayRead of the bytes of %.200v, which is not right, = %+v", s, back)
			}
		case back.Code != impl.OK || !sameSay(back.Say, s):
			t.Fatalf("%+v comes back as %+v", s, back)
		}
	}
}

func syntaxIs(t *testing.T, text string) {
	t.Helper()
	if got := impl.SayRead(text); !isCode(got, impl.ErrSyntax) {
		t.Errorf("SayRead(%.60q) = %+v, want ErrSyntax and zeros", text, got)
	}
}

func TestSayReadEndsAndMore(t *testing.T) {
	for _, s := range rightSays() {
		bytes := sayBytesOf(s)
		for cut := range len(bytes) {
			syntaxIs(t, bytes[:cut])
			syntaxIs(t, bytes[cut+1:])
		}
		for b := range 256 {
			syntaxIs(t, bytes+string([]byte{byte(b)}))
		}
		syntaxIs(t, bytes+bytes)
		syntaxIs(t, bytes+strings.Repeat("\x00", impl.MaxBytes-len(bytes)))
		syntaxIs(t, "\x00"+bytes)
	}
}

func TestSayReadSizes(t *testing.T) {
	syntaxIs(t, "")
	syntaxIs(t, "x")
	right := sayBytesOf(rightSays()[0])
	for _, fill := range []string{"\x00", "\x02", "\x7f", "\x80", "\xff", "a"} {
		syntaxIs(t, strings.Repeat(fill, impl.MaxBytes))
		for _, text := range []string{strings.Repeat(fill, impl.MaxBytes+1), right + strings.Repeat(fill, impl.MaxBytes+1-len(right)), strings.Repeat(fill, 2*impl.MaxBytes)} {
			if got := impl.SayRead(text); !isCode(got, impl.ErrSize) {
				t.Errorf("SayRead of %d bytes %q = %+v, want ErrSize and zeros", len(text), fill, got)
			}
		}
	}
}

// longNum is a number that is not written the shortest way: with noughts behind.
func longNum(n int64, noughts int) string {
	b := []byte(numsBytes(n))
	for range noughts {
		b[len(b)-1] += 128
		b = append(b, 0)
	}
	return string(b)
}

// Each number of each Say, one by one, is written longer than it needs to be.
func TestSayReadLongNumbers(t *testing.T) {
	for _, s := range rightSays() {
		nums := append([]int64{s.Kind, s.From, s.To, s.Stamp.Gen, s.Stamp.Origin, s.Stamp.Boot, s.Stamp.Hop, int64(len(s.Words))}, s.Words...)
		nums = append(nums, int64(len(s.Body)))
		for at, n := range nums {
			for noughts := 1; noughts < 11-len(numsBytes(n)); noughts++ {
				syntaxIs(t, numsBytes(nums[:at]...)+longNum(n, noughts)+numsBytes(nums[at+1:]...)+s.Body)
			}
		}
	}
}

func TestSayReadCounts(t *testing.T) {
	token := numsBytes(2, 1, 2, 1, 2, 0, 0)
	if got := impl.SayRead(token + numsBytes(2, 7, 8, 0)); got.Code != impl.OK || !reflect.DeepEqual(got.Say.Words, []int64{7, 8}) {
		t.Errorf("two words are read as %+v", got)
	}
	for _, many := range []int64{math.MinInt64, -2, -1, 5, 6, impl.MaxList, impl.MaxList + 1, impl.MaxBytes, 1 << 40, math.MaxInt64} {
		syntaxIs(t, token+numsBytes(many))
		syntaxIs(t, token+numsBytes(many, 0))
		syntaxIs(t, token+numsBytes(many)+strings.Repeat("\x00", 7))
		syntaxIs(t, token+numsBytes(many)+strings.Repeat("\x00", impl.MaxBytes-20))
	}
	for many := range int64(5) {
		for words := range 7 {
			text := token + numsBytes(many) + strings.Repeat("\x02", words) + numsBytes(0)
			if int64(words) != many {
				syntaxIs(t, text)
			}
		}
	}
	data := numsBytes(5, 1, 2, 1, 2, 0, 0, 0)
	if got := impl.SayRead(data + numsBytes(2) + "ab"); got.Code != impl.OK || got.Say.Body != "ab" {
		t.Errorf("a body is read as %+v", got)
	}
	for _, long := range []int64{math.MinInt64, -2, -1, 0, 1, 3, 20, 21, impl.MaxBytes, impl.MaxBytes + 1, math.MaxInt64} {
		syntaxIs(t, data+numsBytes(long)+"ab")
	}
}

// What is read with a byte turned, if it is read at all, has just those bytes.
func TestTurnedSays(t *testing.T) {
	for _, s := range rightSays() {
		bytes := impl.SayBytes(s)
		for at := range len(bytes) {
			for by := 1; by < 256; by++ {
				b := []byte(bytes)
				b[at] ^= byte(by)
				readIsOneWay(t, string(b))
			}
		}
	}
}

func readIsOneWay(t *testing.T, text string) {
	t.Helper()
	got := impl.SayRead(text)
	if got.Code == impl.OK {
		if !sayIsRight(got.Say) || sayBytesOf(got.Say) != text {
			t.Errorf("%q is read as %+v, whose bytes it is not", text, got)
		}
	} else if len(text) <= impl.MaxBytes && !isCode(got, impl.ErrSyntax) {
		t.Errorf("SayRead(%q) = %+v, want ErrSyntax and zeros", text, got)
	}
}

func TestSayMemory(t *testing.T) {
	whole := []int64{1, 2, 9, 9, 9, 9}
	s := impl.Say{Kind: impl.SyToken, From: 1, To: 2, Stamp: impl.Stamp{Origin: 1}, Words: whole[:2]}
	bytes := impl.SayBytes(s)
	impl.SayRight(s)
	if !reflect.DeepEqual(whole, []int64{1, 2, 9, 9, 9, 9}) || len(s.Words) != 2 {
		t.Errorf("what is handed in is changed: %v", whole)
	}
	first, second := impl.SayRead(bytes), impl.SayRead(bytes)
	first.Say.Words[0] = 77
	if second.Say.Words[0] != 1 || impl.SayRead(bytes).Say.Words[0] != 1 {
		t.Error("two answers share their words")
	}
}

func FuzzSay(f *testing.F) {
	for _, s := range rightSays() {
		f.Add(sayBytesOf(s), s.Kind, s.From, s.To, s.Stamp.Gen, s.Stamp.Origin, s.Stamp.Boot, s.Stamp.Hop, int64(len(s.Words)), int64(7), s.Body)
	}
	f.Fuzz(func(t *testing.T, text string, kind, from, to, gen, origin, boot, hop, many, word int64, body string) {
		readIsOneWay(t, text)
		s := impl.Say{Kind: kind, From: from, To: to, Stamp: impl.Stamp{Gen: gen, Origin: origin, Boot: boot, Hop: hop}, Body: body}
		for range many % 8 {
			s.Words = append(s.Words, word)
		}
		right := sayIsRight(s)
		if impl.SayRight(s) != right || impl.StampRight(s.Stamp) != stampIsRight(s.Stamp) {
			t.Errorf("SayRight(%+v) is not %v, or its stamp's is wrong", s, right)
		}
		bytes := impl.SayBytes(s)
		if !right && bytes != "" || right && bytes != sayBytesOf(s) {
			t.Errorf("SayBytes(%+v) = %q", s, bytes)
		}
		if back := impl.SayRead(bytes); right && (back.Code != impl.OK || !sameSay(back.Say, s)) {
			t.Errorf("%+v comes back as %+v", s, back)
		}
	})
}
