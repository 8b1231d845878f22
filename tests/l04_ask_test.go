package tests

import (
	"encoding/binary"
	"math"
	"reflect"
	"strings"
	"testing"

	"loop.example/g00556/impl"
)

// askForm is what an Fc may have, in the document's words.
type askForm struct {
	most, top  int64
	sets, many bool
	coils      bool
}

func askFormOf(fc int64) (askForm, bool) {
	form, ok := map[int64]askForm{
		1:  {most: 64, coils: true},
		3:  {most: 8},
		5:  {most: 1, top: 1, sets: true, coils: true},
		6:  {most: 1, top: 65535, sets: true},
		15: {most: 16, top: 1, sets: true, many: true, coils: true},
		16: {most: 4, top: 65535, sets: true, many: true},
	}[fc]
	return form, ok
}

func askIsRight(a impl.Ask) bool {
	form, ok := askFormOf(a.Fc)
	if !ok || !within(a.At, 0, 65535) || !within(a.Many, 1, form.most) {
		return false
	}
	if !form.sets {
		return len(a.Values) == 0
	}
	for _, n := range a.Values {
		if !within(n, 0, form.top) {
			return false
		}
	}
	return int64(len(a.Values)) == a.Many
}

// askBytesOf are the bytes of an Ask of one of the six Fcs, by the library's words; it may be wrong else.
func askBytesOf(a impl.Ask) string {
	form, _ := askFormOf(a.Fc)
	b := binary.BigEndian.AppendUint16([]byte{byte(a.Fc)}, uint16(a.At))
	if form.many || !form.sets {
		b = binary.BigEndian.AppendUint16(b, uint16(a.Many))
	}
	var data []byte
	for i, n := range a.Values {
		switch {
		case form.coils && !form.many:
			data = binary.BigEndian.AppendUint16(data, uint16(n*65280))
		case !form.coils:
			data = binary.BigEndian.AppendUint16(data, uint16(n))
		default:
			if i%8 == 0 {
				data = append(data, 0)
			}
			data[i/8] += byte(n) * [8]byte{1, 2, 4, 8, 16, 32, 64, 128}[i%8]
		}
	}
	if form.many {
		b = append(b, byte(len(data)))
	}
	return string(b) + string(data)
}

func allFcs() []int64 {
	return []int64{impl.FcCoils, impl.FcRegs, impl.FcCoil, impl.FcReg, impl.FcManyCoils, impl.FcManyRegs}
}

// edgeFcs are the six, and what is none, some of them alike in their lowest byte.
func edgeFcs() []int64 {
	l := []int64{math.MinInt64, math.MinInt64 + 1, -255, -1, 255, 256, 256 + 1, 256 + 15, 1<<32 + 6, math.MaxInt64}
	for fc := range int64(20) {
		l = append(l, fc)
	}
	for _, fc := range allFcs() {
		l = append(l, fc+128, -fc)
	}
	return l
}

func edgePlaces() []int64 {
	return []int64{math.MinInt64, -65536, -1, 0, 1, 255, 256, 258, 65279, 65280, 65534, 65535, 65536, 65537, math.MaxInt64}
}

func edgeManys() []int64 {
	return []int64{math.MinInt64, -1, 0, 1, 2, 3, 4, 5, 7, 8, 9, 15, 16, 17, 63, 64, 65, 255, 256, 257, 65535, 65536, 65537, math.MaxInt64}
}

// edgeValues are lists of values of a length: all alike, mixed, and with one wrong one at either end or between.
func edgeValues(long int) [][]int64 {
	if long == 0 {
		return [][]int64{nil, {}}
	}
	l := [][]int64{make([]int64, long), listOf(long, 1), listOf(long, 7), listOf(long, 65535)}
	mixed := make([]int64, long)
	for i := range mixed {
		mixed[i] = int64(i*i%3) % 2
	}
	l = append(l, mixed)
	for _, n := range []int64{math.MinInt64, -65536, -256, -1, 2, 255, 256, 65280, 65535, 65536, 65537, math.MaxInt64} {
		for _, at := range []int{0, long / 2, long - 1} {
			one := append([]int64{}, mixed...)
			one[at] = n
			l = append(l, one)
		}
	}
	return l
}

func listOf(long int, n int64) []int64 {
	l := make([]int64, long)
	for i := range l {
		l[i] = n
	}
	return l
}

// edgeAsks are all Asks of edges: each Fc, and none, with each field at its ends and just outside.
func edgeAsks() []impl.Ask {
	var l []impl.Ask
	for _, fc := range edgeFcs() {
		for _, many := range edgeManys() {
			for _, at := range edgePlaces() {
				l = append(l, impl.Ask{Fc: fc, At: at, Many: many}, impl.Ask{Fc: fc, At: at, Many: many, Values: []int64{1}})
			}
			longs := []int{0, 1, 2, 4, 5, 16, 17, 64}
			if within(many, 1, 65) {
				longs = append(longs, int(many)-1, int(many), int(many)+1)
			}
			for _, long := range longs {
				for _, values := range edgeValues(long) {
					l = append(l, impl.Ask{Fc: fc, At: 258, Many: many, Values: values})
				}
			}
		}
	}
	return append(l,
		impl.Ask{Fc: impl.FcCoils, Many: 1, Values: make([]int64, impl.MaxList+1)},
		impl.Ask{Fc: impl.FcManyCoils, Many: impl.MaxList, Values: make([]int64, impl.MaxList)},
		impl.Ask{Fc: impl.FcManyRegs, Many: impl.MaxList + 1, Values: make([]int64, impl.MaxList+1)},
		// As words, or as one byte, these lengths would be 1.
		impl.Ask{Fc: impl.FcManyCoils, Many: 1, Values: make([]int64, 257)},
		impl.Ask{Fc: impl.FcManyRegs, Many: 1, Values: make([]int64, 65537)},
	)
}

// rightAsks are right ones of each Fc, of each Many, at the lowest and the highest place.
func rightAsks() []impl.Ask {
	var l []impl.Ask
	for _, fc := range allFcs() {
		form, _ := askFormOf(fc)
		for many := int64(1); many <= form.most; many++ {
			for _, at := range []int64{0, 258, 65280, 65535} {
				a := impl.Ask{Fc: fc, At: at, Many: many}
				if !form.sets {
					l = append(l, a)
					continue
				}
				for _, a.Values = range edgeValues(int(many)) {
					if askIsRight(a) {
						l = append(l, a)
					}
				}
			}
		}
	}
	return l
}

// sameAsk takes an empty list and none for the same.
func sameAsk(a impl.Ask, b impl.Ask) bool {
	if len(a.Values) == 0 && len(b.Values) == 0 {
		a.Values, b.Values = nil, nil
	}
	return reflect.DeepEqual(a, b)
}

func isAskCode(got impl.AskOut, code int64) bool {
	return got.Code == code && sameAsk(got.Ask, impl.Ask{})
}

func noAskIs(t *testing.T, text string) {
	t.Helper()
	if got := impl.AskRead(text); !isAskCode(got, impl.ErrSyntax) {
		t.Fatalf("AskRead(%.60q) = %.200v, want ErrSyntax and zeros", text, got)
	}
}

// askIs holds what is read against what it must be; of one that is not right it must be refused.
func askIs(t *testing.T, text string, want impl.Ask) {
	t.Helper()
	if !askIsRight(want) {
		noAskIs(t, text)
		return
	}
	if got := impl.AskRead(text); got.Code != impl.OK || !sameAsk(got.Ask, want) {
		t.Fatalf("AskRead(%.60q) = %.200v, want %+v", text, got, want)
	}
}

func TestAskConstants(t *testing.T) {
	got := append(allFcs(), impl.ExCode, impl.ExPlace, impl.ExValue)
	if !reflect.DeepEqual(got, []int64{1, 3, 5, 6, 15, 16, 1, 2, 3}) {
		t.Errorf("the constants are %v", got)
	}
}

func TestAskRight(t *testing.T) {
	right := map[int64]int{}
	for _, a := range edgeAsks() {
		want := askIsRight(a)
		if got := impl.AskRight(a); got != want {
			t.Fatalf("AskRight(%.200v) = %v", a, got)
		}
		if want {
			right[a.Fc]++
		}
	}
	for _, fc := range allFcs() {
		if right[fc] < 15 {
			t.Errorf("just %d of the edges are right ones of Fc %d", right[fc], fc)
		}
	}
}

func TestAskRightByHand(t *testing.T) {
	for _, c := range []struct {
		ask  impl.Ask
		want bool
	}{
		{impl.Ask{}, false},
		{impl.Ask{Fc: impl.FcCoils, Many: 64}, true},
		{impl.Ask{Fc: impl.FcCoils, Many: 65}, false},
		{impl.Ask{Fc: impl.FcCoils, Many: 0}, false},
		{impl.Ask{Fc: impl.FcCoils, At: 65535, Many: 64}, true},
		{impl.Ask{Fc: impl.FcCoils, Many: 1, Values: []int64{0}}, false},
		{impl.Ask{Fc: impl.FcRegs, At: 65535, Many: 8}, true},
		{impl.Ask{Fc: impl.FcRegs, At: 65536, Many: 8}, false},
		{impl.Ask{Fc: impl.FcRegs, Many: 9}, false},
		{impl.Ask{Fc: impl.FcCoil, Many: 1, Values: []int64{1}}, true},
		{impl.Ask{Fc: impl.FcCoil, Values: []int64{1}}, false},
		{impl.Ask{Fc: impl.FcCoil, Many: 1}, false},
		{impl.Ask{Fc: impl.FcCoil, Many: 1, Values: []int64{2}}, false},
		{impl.Ask{Fc: impl.FcCoil, Many: 1, Values: []int64{65280}}, false},
		{impl.Ask{Fc: impl.FcCoil, Many: 2, Values: []int64{1, 1}}, false},
		{impl.Ask{Fc: impl.FcReg, Many: 1, Values: []int64{65535}}, true},
		{impl.Ask{Fc: impl.FcReg, Many: 1, Values: []int64{65536}}, false},
		{impl.Ask{Fc: impl.FcReg, Many: 2, Values: []int64{1, 2}}, false},
		{impl.Ask{Fc: impl.FcManyCoils, Many: 16, Values: make([]int64, 16)}, true},
		{impl.Ask{Fc: impl.FcManyCoils, Many: 17, Values: make([]int64, 17)}, false},
		{impl.Ask{Fc: impl.FcManyCoils}, false},
		{impl.Ask{Fc: impl.FcManyCoils, Many: 2, Values: []int64{1}}, false},
		{impl.Ask{Fc: impl.FcManyRegs, Many: 4, Values: []int64{0, 65535, 1, 2}}, true},
		{impl.Ask{Fc: impl.FcManyRegs, Many: 5, Values: make([]int64, 5)}, false},
		{impl.Ask{Fc: impl.FcManyRegs, Many: 3, Values: make([]int64, 4)}, false},
		{impl.Ask{Fc: 2, Many: 1}, false},
		{impl.Ask{Fc: 4, Many: 1, Values: []int64{1}}, false},
	} {
		if got := impl.AskRight(c.ask); got != c.want {
			t.Errorf("AskRight(%+v) = %v", c.ask, got)
		}
	}
}

func TestAskBytes(t *testing.T) {
	for _, c := range []struct {
		ask  impl.Ask
		want string
	}{
		{impl.Ask{}, ""},
		{impl.Ask{Fc: impl.FcCoils, At: 0, Many: 1}, "\x01\x00\x00\x00\x01"},
		{impl.Ask{Fc: impl.FcCoils, At: 65535, Many: 64}, "\x01\xff\xff\x00\x40"},
		{impl.Ask{Fc: impl.FcRegs, At: 258, Many: 8}, "\x03\x01\x02\x00\x08"},
		{impl.Ask{Fc: impl.FcCoil, At: 1, Many: 1, Values: []int64{1}}, "\x05\x00\x01\xff\x00"},
		{impl.Ask{Fc: impl.FcCoil, At: 256, Many: 1, Values: []int64{0}}, "\x05\x01\x00\x00\x00"},
		{impl.Ask{Fc: impl.FcReg, At: 7, Many: 1, Values: []int64{4660}}, "\x06\x00\x07\x12\x34"},
		{impl.Ask{Fc: impl.FcReg, At: 7, Many: 1, Values: []int64{65535}}, "\x06\x00\x07\xff\xff"},
		{impl.Ask{Fc: impl.FcManyCoils, At: 2, Many: 1, Values: []int64{1}}, "\x0f\x00\x02\x00\x01\x01\x01"},
		{impl.Ask{Fc: impl.FcManyCoils, At: 2, Many: 8, Values: []int64{0, 1, 0, 0, 0, 0, 0, 1}}, "\x0f\x00\x02\x00\x08\x01\x82"},
		{impl.Ask{Fc: impl.FcManyCoils, At: 2, Many: 9, Values: []int64{0, 1, 0, 0, 0, 0, 0, 1, 1}}, "\x0f\x00\x02\x00\x09\x02\x82\x01"},
		{impl.Ask{Fc: impl.FcManyCoils, At: 2, Many: 16, Values: listOf(16, 1)}, "\x0f\x00\x02\x00\x10\x02\xff\xff"},
		{impl.Ask{Fc: impl.FcManyRegs, At: 3, Many: 1, Values: []int64{1}}, "\x10\x00\x03\x00\x01\x02\x00\x01"},
		{impl.Ask{Fc: impl.FcManyRegs, At: 3, Many: 4, Values: []int64{0, 65535, 258, 65280}}, "\x10\x00\x03\x00\x04\x08\x00\x00\xff\xff\x01\x02\xff\x00"},
	} {
		if got := impl.AskBytes(c.ask); got != c.want {
			t.Errorf("AskBytes(%+v) = %q, want %q", c.ask, got, c.want)
		}
	}
}

func TestQuestionsComeBack(t *testing.T) {
	for _, a := range append(rightAsks(), edgeAsks()...) {
		if !askIsRight(a) {
			if got := impl.AskBytes(a); got != "" {
				t.Fatalf("AskBytes(%.200v), which is not right, = %q", a, got)
			}
			continue
		}
		bytes := askBytesOf(a)
		if got := impl.AskBytes(a); got != bytes {
			t.Fatalf("AskBytes(%+v) = %q, want %q", a, got, bytes)
		}
		askIs(t, bytes, a)
	}
}

func TestAskReadEndsAndMore(t *testing.T) {
	for _, a := range rightAsks() {
		bytes := askBytesOf(a)
		for cut := range len(bytes) {
			noAskIs(t, bytes[:cut])
		}
		for b := range 256 {
			noAskIs(t, bytes+string([]byte{byte(b)}))
		}
		noAskIs(t, bytes+"\x00\x00")
		noAskIs(t, bytes+bytes)
		noAskIs(t, "\x00"+bytes)
	}
}

func TestAskReadSizes(t *testing.T) {
	noAskIs(t, "")
	noAskIs(t, "x")
	for _, fc := range allFcs() {
		first := string([]byte{byte(fc)})
		noAskIs(t, first)
		for _, fill := range []string{"\x00", "\x01", "\xff"} {
			noAskIs(t, first+strings.Repeat(fill, impl.MaxBytes-1))
		}
	}
	for _, ahead := range []string{"", "\x00", "\x10\x00\x00\x00\x04\x08", askBytesOf(rightAsks()[0]), "\x06\x00\x00\x00\x00"} {
		noAskIs(t, ahead+strings.Repeat("\x00", impl.MaxBytes-len(ahead)))
		for _, long := range []int{impl.MaxBytes + 1, impl.MaxBytes + 2, 2 * impl.MaxBytes} {
			text := ahead + strings.Repeat("\x00", long-len(ahead))
			if got := impl.AskRead(text); !isAskCode(got, impl.ErrSize) {
				t.Errorf("AskRead of %d bytes = %.200v, want ErrSize and zeros", long, got)
			}
		}
	}
}

// Whatever the first byte is: only one of the six Fcs begins a question.
func TestAskReadFirstBytes(t *testing.T) {
	tails := []string{"", "\x00", "\x00\x01\x00", "\x00\x01\x00\x01", "\x00\x01\xff\x00", "\x00\x01\x00\x01\x01\x01", "\x00\x01\x00\x01\x02\x00\x01"}
	for fc := range 256 {
		_, ok := askFormOf(int64(fc))
		read := 0
		for _, tail := range tails {
			text := string([]byte{byte(fc)}) + tail
			if !ok {
				noAskIs(t, text)
			}
			readAskIsOneWay(t, text)
			if impl.AskRead(text).Code == impl.OK {
				read++
			}
		}
		if ok && read == 0 {
			t.Errorf("none that begins with %d is read", fc)
		}
	}
}

// Each word behind At, of those questions that have no more than it.
func TestAskReadThirdWord(t *testing.T) {
	for word := range int64(65536) {
		two := string([]byte{byte(word >> 8), byte(word)})
		askIs(t, "\x01\x01\x02"+two, impl.Ask{Fc: 1, At: 258, Many: word})
		askIs(t, "\x03\x01\x02"+two, impl.Ask{Fc: 3, At: 258, Many: word})
		askIs(t, "\x06\x01\x02"+two, impl.Ask{Fc: 6, At: 258, Many: 1, Values: []int64{word}})
		switch word {
		case 0:
			askIs(t, "\x05\x01\x02"+two, impl.Ask{Fc: 5, At: 258, Many: 1, Values: []int64{0}})
		case 65280:
			askIs(t, "\x05\x01\x02"+two, impl.Ask{Fc: 5, At: 258, Many: 1, Values: []int64{1}})
		default:
			noAskIs(t, "\x05\x01\x02"+two)
		}
	}
}

func TestAskReadPlaces(t *testing.T) {
	for at := range int64(65536) {
		two := string([]byte{byte(at >> 8), byte(at)})
		askIs(t, "\x03"+two+"\x00\x01", impl.Ask{Fc: 3, At: at, Many: 1})
		askIs(t, "\x10"+two+"\x00\x01\x02\x12\x34", impl.Ask{Fc: 16, At: at, Many: 1, Values: []int64{4660}})
	}
}

// Many, the count of bytes, and how many there are: all ways in which they fit, and do not.
func TestAskReadCounts(t *testing.T) {
	manys := []int64{0, 1, 2, 3, 4, 5, 6, 7, 8, 9, 10, 15, 16, 17, 18, 24, 25, 63, 64, 65, 128, 255, 256, 257, 260, 264, 65535}
	for _, many := range manys {
		for count := range 256 {
			for long := range 18 {
				if long > 10 && long != count {
					continue
				}
				head := string([]byte{0, 2, byte(many >> 8), byte(many), byte(count)})
				coils, regs := "\x0f"+head+strings.Repeat("\x00", long), "\x10"+head+strings.Repeat("\x00", long)
				if count == long && int64(long) == (many+7)/8 && many > 0 {
					askIs(t, coils, impl.Ask{Fc: 15, At: 2, Many: many, Values: make([]int64, many)})
				} else {
					noAskIs(t, coils)
				}
				if count == long && int64(long) == 2*many {
					askIs(t, regs, impl.Ask{Fc: 16, At: 2, Many: many, Values: make([]int64, many)})
				} else {
					noAskIs(t, regs)
				}
			}
		}
	}
}

// All bits that many coils may be set to, and all those set behind the last one.
func TestAskReadCoilBits(t *testing.T) {
	for many := int64(1); many <= 16; many++ {
		long := int(many+7) / 8
		for all := range 1 << (8 * long) {
			text := string([]byte{15, 0, 2, 0, byte(many), byte(long), byte(all), byte(all >> 8)}[:6+long])
			if all>>many != 0 {
				noAskIs(t, text)
				continue
			}
			values := make([]int64, many)
			for i := range values {
				values[i] = int64(all >> i & 1)
			}
			askIs(t, text, impl.Ask{Fc: 15, At: 2, Many: many, Values: values})
		}
	}
}

// readAskIsOneWay: what is read, if it is read at all, is right, and has just those bytes.
func readAskIsOneWay(t *testing.T, text string) {
	t.Helper()
	got := impl.AskRead(text)
	if got.Code == impl.OK {
		if !askIsRight(got.Ask) || askBytesOf(got.Ask) != text {
			t.Errorf("%q is read as %+v, whose bytes it is not", text, got)
		}
	} else if len(text) <= impl.MaxBytes && !isAskCode(got, impl.ErrSyntax) {
		t.Errorf("AskRead(%q) = %+v, want ErrSyntax and zeros", text, got)
	}
}

func TestTurnedAsks(t *testing.T) {
	for _, a := range rightAsks() {
		if a.At != 258 {
			continue
		}
		bytes := impl.AskBytes(a)
		for at := range len(bytes) {
			for by := 1; by < 256; by++ {
				b := []byte(bytes)
				b[at] ^= byte(by)
				readAskIsOneWay(t, string(b))
			}
		}
	}
}

func TestBitsText(t *testing.T) {
	for _, c := range []struct {
		bits []int64
		want string
	}{
		{nil, ""},
		{[]int64{}, ""},
		{[]int64{0}, "\x00"},
		{[]int64{1}, "\x01"},
		{[]int64{1, 0, 1}, "\x05"},
		{[]int64{0, 0, 0, 0, 0, 0, 0, 1}, "\x80"},
		{listOf(8, 1), "\xff"},
		{listOf(9, 1), "\xff\x01"},
		{make([]int64, 9), "\x00\x00"},
		{[]int64{0, 0, 0, 0, 0, 0, 0, 0, 1}, "\x00\x01"},
		{listOf(63, 1), "\xff\xff\xff\xff\xff\xff\xff\x7f"},
		{listOf(64, 1), "\xff\xff\xff\xff\xff\xff\xff\xff"},
		{make([]int64, 64), "\x00\x00\x00\x00\x00\x00\x00\x00"},
		{make([]int64, 65), ""},
		{listOf(65, 1), ""},
		{make([]int64, impl.MaxList), ""},
		{make([]int64, impl.MaxList+1), ""},
		{[]int64{2}, ""},
		{[]int64{-1}, ""},
		{[]int64{1, 0, 256}, ""},
		{listOf(65, 2), ""},
	} {
		if got := impl.BitsText(c.bits); got != c.want {
			t.Errorf("BitsText(%v) = %q, want %q", c.bits, got, c.want)
		}
	}
}

func TestBitsTextOfNoBits(t *testing.T) {
	for _, long := range []int{1, 2, 8, 9, 16, 63, 64} {
		for at := range long {
			for _, n := range []int64{math.MinInt64, math.MinInt64 + 1, -256, -1, 2, 3, 255, 256, 257, 65536, 1 << 32, math.MaxInt64} {
				for _, fill := range []int64{0, 1} {
					l := listOf(long, fill)
					l[at] = n
					if got := impl.BitsText(l); got != "" {
						t.Fatalf("BitsText(%v) = %q", l, got)
					}
				}
			}
		}
	}
}

// somePatterns are bits of each length of up to 64: all alike, every third, and just one at each place.
func somePatterns() [][]int64 {
	var l [][]int64
	for long := 1; long <= 64; long++ {
		third := make([]int64, long)
		for i := range third {
			third[i] = int64(i*i%7) % 2
		}
		l = append(l, make([]int64, long), listOf(long, 1), third)
		for at := range long {
			one, other := make([]int64, long), listOf(long, 1)
			one[at], other[at] = 1, 0
			l = append(l, one, other)
		}
	}
	return l
}

func TestBitsComeBack(t *testing.T) {
	for _, bits := range somePatterns() {
		text := impl.BitsText(bits)
		var sum uint64
		for i, bit := range bits {
			sum += uint64(bit) << i
		}
		want := string(binary.LittleEndian.AppendUint64(nil, sum)[:(len(bits)+7)/8])
		if text != want {
			t.Fatalf("BitsText(%v) = %q, want %q", bits, text, want)
		}
		if got := impl.BitsRead(text, int64(len(bits))); !reflect.DeepEqual(got, bits) {
			t.Fatalf("%v comes back as %v", bits, got)
		}
	}
}

func TestBitsReadLengths(t *testing.T) {
	manys := []int64{math.MinInt64, -65, -64, -8, -1, 65, 66, 72, 73, 255, 256, 257, 64000, 64001, 1 << 32, 1<<32 + 1, math.MaxInt64 - 7, math.MaxInt64}
	for many := range int64(65) {
		manys = append(manys, many)
	}
	for _, long := range []int{0, 1, 2, 3, 4, 5, 6, 7, 8, 9, 10, 257, impl.MaxBytes, impl.MaxBytes + 1} {
		text := strings.Repeat("\xff", long)
		for _, many := range manys {
			got := impl.BitsRead(text, many)
			if within(many, 1, 64) && int64(long) == (many+7)/8 {
				// A bit set behind the last one is none of these bits: the text has as many bytes as they need.
				if !reflect.DeepEqual(got, listOf(int(many), 1)) {
					t.Errorf("BitsRead of %d bytes, %d = %v", long, many, got)
				}
			} else if len(got) != 0 {
				t.Errorf("BitsRead of %d bytes, %d = %v, want none", long, many, got)
			}
		}
	}
}

func TestBitsReadByHand(t *testing.T) {
	for _, c := range []struct {
		text string
		many int64
		want []int64
	}{
		{"\x05", 3, []int64{1, 0, 1}},
		{"\x05", 2, []int64{1, 0}},
		{"\x80", 8, []int64{0, 0, 0, 0, 0, 0, 0, 1}},
		{"\x80", 7, []int64{0, 0, 0, 0, 0, 0, 0}},
		{"\x81\x02", 10, []int64{1, 0, 0, 0, 0, 0, 0, 1, 0, 1}},
		{"\x81\xfe", 9, []int64{1, 0, 0, 0, 0, 0, 0, 1, 0}},
	} {
		if got := impl.BitsRead(c.text, c.many); !reflect.DeepEqual(got, c.want) {
			t.Errorf("BitsRead(%q, %d) = %v, want %v", c.text, c.many, got, c.want)
		}
	}
}

func TestAskMemory(t *testing.T) {
	whole := []int64{1, 0, 1, 9, 9, 9}
	for _, fc := range allFcs() {
		a := impl.Ask{Fc: fc, Many: 3, Values: whole[:3]}
		impl.AskRight(a)
		impl.AskBytes(a)
		impl.BitsText(a.Values)
		if !reflect.DeepEqual(whole, []int64{1, 0, 1, 9, 9, 9}) || a.Many != 3 || len(a.Values) != 3 {
			t.Fatalf("what is handed in is changed: %v", whole)
		}
	}
	for _, a := range rightAsks() {
		if len(a.Values) == 0 {
			continue
		}
		bytes := impl.AskBytes(a)
		first, second := impl.AskRead(bytes), impl.AskRead(bytes)
		first.Ask.Values[0] += 77
		askIs(t, bytes, a)
		if !sameAsk(second.Ask, a) {
			t.Fatal("two answers share their values")
		}
	}
	first, second := impl.BitsRead("\x05", 3), impl.BitsRead("\x05", 3)
	first[0] = 77
	if second[0] != 1 || impl.BitsRead("\x05", 3)[0] != 1 {
		t.Error("two answers share their bits")
	}
}

func FuzzAsk(f *testing.F) {
	for _, a := range rightAsks() {
		if a.At == 258 {
			f.Add(askBytesOf(a), a.Fc, a.At, a.Many, int64(len(a.Values)), int64(1))
		}
	}
	f.Fuzz(func(t *testing.T, text string, fc, at, many, long, value int64) {
		readAskIsOneWay(t, text)
		a := impl.Ask{Fc: fc, At: at, Many: many}
		for range long % 70 {
			a.Values = append(a.Values, value)
		}
		right := askIsRight(a)
		if impl.AskRight(a) != right {
			t.Errorf("AskRight(%+v) is not %v", a, right)
		}
		bytes := impl.AskBytes(a)
		if !right && bytes != "" || right && bytes != askBytesOf(a) {
			t.Errorf("AskBytes(%+v) = %q", a, bytes)
		}
		if right {
			askIs(t, bytes, a)
		}
		bits := impl.BitsRead(text, many)
		if len(bits) != 0 && (int64(len(bits)) != many || len(impl.BitsText(bits)) != len(text)) {
			t.Errorf("BitsRead(%q, %d) = %v", text, many, bits)
		}
	})
}
