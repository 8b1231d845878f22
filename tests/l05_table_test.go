package tests

import (
	"math"
	"math/rand"
	"reflect"
	"strings"
	"testing"
	"unsafe"

	"loop.example/g00556/impl"
)

func tableIsRight(table impl.Table) bool {
	for _, n := range table.Coils {
		if n != 0 && n != 1 {
			return false
		}
	}
	for _, n := range table.Regs {
		if !within(n, 0, 65535) {
			return false
		}
	}
	return len(table.Coils) <= 24 && len(table.Regs) <= 12
}

// sameNums takes an empty list and none for the same.
func sameNums(a []int64, b []int64) bool {
	return len(a) == 0 && len(b) == 0 || reflect.DeepEqual(a, b)
}

func sameTable(a impl.Table, b impl.Table) bool {
	return sameNums(a.Coils, b.Coils) && sameNums(a.Regs, b.Regs)
}

func sameServe(a impl.ServeOut, b impl.ServeOut) bool {
	return sameTable(a.Table, b.Table) && a.Answer == b.Answer && a.Code == b.Code
}

func ownTable(table impl.Table) impl.Table {
	return impl.Table{Coils: append([]int64{}, table.Coils...), Regs: append([]int64{}, table.Regs...)}
}

// served is what Serve must answer, in the document's words; what AskRead reads is tested with it.
func served(table impl.Table, text string) impl.ServeOut {
	if len(text) > 8000 {
		return impl.ServeOut{Code: 2}
	}
	if !tableIsRight(table) || text == "" {
		return impl.ServeOut{Code: 1}
	}
	out := impl.ServeOut{Table: ownTable(table)}
	form, ok := askFormOf(int64(text[0]))
	read := impl.AskRead(text)
	cells, a, manyFc := out.Table.Regs, read.Ask, int64(16)
	if form.coils {
		cells, manyFc = out.Table.Coils, 15
	}
	exception := byte(0)
	if !ok {
		exception = 1
	} else if read.Code != 0 {
		exception = 3
	} else if a.At+a.Many > int64(len(cells)) {
		exception = 2
	}
	if exception != 0 {
		out.Answer = string([]byte{text[0]%128 + 128, exception})
		return out
	}
	for i, n := range a.Values {
		cells[a.At+int64(i)] = n
	}
	out.Answer = text[:5]
	if !form.sets {
		// What is told of these cells are the bytes by which they would be set, from their count on.
		out.Answer = text[:1] + askBytesOf(impl.Ask{Fc: manyFc, Values: cells[a.At : a.At+a.Many]})[5:]
	}
	return out
}

func serveIs(t *testing.T, table impl.Table, text string, want impl.ServeOut) impl.ServeOut {
	t.Helper()
	got := impl.Serve(table, text)
	if !sameServe(got, want) {
		t.Fatalf("Serve(%.200v, %.40q) = %.300v, want %.300v", table, text, got, want)
	}
	return got
}

// mixedTable is a table of so many coils and regs, no two regs alike.
func mixedTable(coils int, regs int) impl.Table {
	var table impl.Table
	for i := range coils {
		table.Coils = append(table.Coils, int64(i*i%7)%2)
	}
	for i := range regs {
		table.Regs = append(table.Regs, int64(258+i*5003)%65536)
	}
	return table
}

// rightTables have no coils and regs, one, as many as may be, and some between, at their lowest and highest.
func rightTables() []impl.Table {
	var l []impl.Table
	for _, coils := range []int{0, 1, 2, 7, 8, 9, 10, 16, 17, 23, 24} {
		for _, regs := range []int{0, 1, 2, 4, 5, 11, 12} {
			l = append(l,
				impl.Table{Coils: make([]int64, coils), Regs: make([]int64, regs)},
				impl.Table{Coils: listOf(coils, 1), Regs: listOf(regs, 65535)},
				mixedTable(coils, regs),
			)
		}
	}
	return append(l, impl.Table{})
}

// wrongTables have too much of either, or just one coil or reg that may not be.
func wrongTables() []impl.Table {
	l := []impl.Table{
		{Coils: make([]int64, 25)}, {Regs: make([]int64, 13)},
		mixedTable(25, 13), mixedTable(25, 12), mixedTable(24, 13), mixedTable(12, 24),
		mixedTable(impl.MaxList, 0), mixedTable(0, impl.MaxList), mixedTable(impl.MaxList+1, impl.MaxList+1),
		mixedTable(256, 0), mixedTable(0, 256),
	}
	for _, at := range []int{0, 11, 23} {
		for _, n := range []int64{math.MinInt64, -256, -1, 2, 3, 255, 256, 257, 65535, 65536, 1 << 32, math.MaxInt64} {
			table := mixedTable(24, 12)
			table.Coils[at] = n
			l = append(l, table)
		}
		for _, n := range []int64{math.MinInt64, -65536, -65535, -1, 65536, 65537, 1 << 32, math.MaxInt64} {
			table := mixedTable(24, 12)
			table.Regs[at/2] = n
			l = append(l, table)
		}
	}
	return l
}

func TestTableConstants(t *testing.T) {
	if impl.MaxCoils != 24 || impl.MaxRegs != 12 {
		t.Errorf("MaxCoils, MaxRegs = %d, %d", impl.MaxCoils, impl.MaxRegs)
	}
}

func TestTableRight(t *testing.T) {
	for _, table := range rightTables() {
		if !tableIsRight(table) || !impl.TableRight(table) {
			t.Errorf("TableRight(%v) = false", table)
		}
	}
	for _, table := range wrongTables() {
		if tableIsRight(table) || impl.TableRight(table) {
			t.Errorf("TableRight(%.200v) = true", table)
		}
	}
}

func TestTableNew(t *testing.T) {
	counts := []int64{math.MinInt64, -25, -1, 0, 1, 2, 8, 11, 12, 13, 23, 24, 25, 26, 255, 256, 257, 65536, 1 << 32, math.MaxInt64}
	for _, coils := range counts {
		for _, regs := range counts {
			want := impl.Table{}
			if within(coils, 0, 24) && within(regs, 0, 12) {
				want = impl.Table{Coils: make([]int64, coils), Regs: make([]int64, regs)}
			}
			if got := impl.TableNew(coils, regs); !sameTable(got, want) {
				t.Errorf("TableNew(%d, %d) = %v", coils, regs, got)
			}
		}
	}
}

func TestServeByHand(t *testing.T) {
	table := impl.Table{Coils: []int64{1, 0, 1, 0, 0, 0, 0, 1, 1, 0}, Regs: []int64{0, 258, 65535, 65280}}
	same := func(answer string) impl.ServeOut { return impl.ServeOut{Table: table, Answer: answer} }
	set := func(coils []int64, regs []int64, answer string) impl.ServeOut {
		return impl.ServeOut{Table: impl.Table{Coils: coils, Regs: regs}, Answer: answer}
	}
	for _, c := range []struct {
		text string
		want impl.ServeOut
	}{
		{"\x01\x00\x00\x00\x01", same("\x01\x01\x01")},
		{"\x01\x00\x00\x00\x08", same("\x01\x01\x85")},
		{"\x01\x00\x00\x00\x0a", same("\x01\x02\x85\x01")},
		{"\x01\x00\x09\x00\x01", same("\x01\x01\x00")},
		{"\x01\x00\x07\x00\x02", same("\x01\x01\x03")},
		{"\x01\x00\x00\x00\x0b", same("\x81\x02")},
		{"\x01\x00\x0a\x00\x01", same("\x81\x02")},
		{"\x01\x00\x00\x00\x00", same("\x81\x03")},
		{"\x01\x00\x00\x00\x41", same("\x81\x03")},
		{"\x03\x00\x00\x00\x04", same("\x03\x08\x00\x00\x01\x02\xff\xff\xff\x00")},
		{"\x03\x00\x03\x00\x01", same("\x03\x02\xff\x00")},
		{"\x03\x00\x03\x00\x02", same("\x83\x02")},
		{"\x03\x00\x04\x00\x01", same("\x83\x02")},
		{"\x03\xff\xff\x00\x01", same("\x83\x02")},
		{"\x03\xff\xff\x00\x09", same("\x83\x03")},
		{"\x05\x00\x01\xff\x00", set([]int64{1, 1, 1, 0, 0, 0, 0, 1, 1, 0}, table.Regs, "\x05\x00\x01\xff\x00")},
		{"\x05\x00\x00\x00\x00", set([]int64{0, 0, 1, 0, 0, 0, 0, 1, 1, 0}, table.Regs, "\x05\x00\x00\x00\x00")},
		{"\x05\x00\x00\x00\x01", same("\x85\x03")},
		{"\x05\x00\x0a\x00\x00", same("\x85\x02")},
		{"\x05\x00\x0a\x00\x01", same("\x85\x03")},
		{"\x06\x00\x03\x12\x34", set(table.Coils, []int64{0, 258, 65535, 4660}, "\x06\x00\x03\x12\x34")},
		{"\x06\x00\x04\x12\x34", same("\x86\x02")},
		{"\x06\x00\x04\x12", same("\x86\x03")},
		{"\x0f\x00\x01\x00\x09\x02\xff\x01", set(listOf(10, 1), table.Regs, "\x0f\x00\x01\x00\x09")},
		{"\x0f\x00\x02\x00\x09\x02\xff\x01", same("\x8f\x02")},
		{"\x0f\x00\x02\x00\x09\x02\xff\x03", same("\x8f\x03")},
		{"\x10\x00\x02\x00\x02\x04\x00\x07\x00\x08", set(table.Coils, []int64{0, 258, 7, 8}, "\x10\x00\x02\x00\x02")},
		{"\x10\x00\x03\x00\x02\x04\x00\x07\x00\x08", same("\x90\x02")},
		{"\x10\x00\x03\x00\x02\x04\x00\x07\x00", same("\x90\x03")},
		{"\x00", same("\x80\x01")},
		{"\x02\x00\x00\x00\x01", same("\x82\x01")},
		{"\x7f", same("\xff\x01")},
		{"\x80\x03", same("\x80\x01")},
		{"\x83\x00\x00\x00\x01", same("\x83\x01")},
		{"\xff", same("\xff\x01")},
		{"\x06", same("\x86\x03")},
		{"", impl.ServeOut{Code: impl.ErrForm}},
	} {
		serveIs(t, table, c.text, c.want)
	}
}

// placedAsks are right questions of each Fc and each Many about so many cells: at the first and the last place,
// just reaching the end, just behind it, and far from it.
func placedAsks(table impl.Table) []impl.Ask {
	var l []impl.Ask
	for _, fc := range allFcs() {
		form, _ := askFormOf(fc)
		cells := int64(len(table.Regs))
		if form.coils {
			cells = int64(len(table.Coils))
		}
		for many := int64(1); many <= form.most; many++ {
			for _, at := range []int64{0, 1, cells - many - 1, cells - many, cells - many + 1, cells - 1, cells, cells + 1, 256, 65535 - many, 65535} {
				a := impl.Ask{Fc: fc, At: at, Many: many}
				if form.sets {
					for i := range many {
						a.Values = append(a.Values, (1+i*40503)%(form.top+1))
					}
				}
				if askIsRight(a) {
					l = append(l, a)
				}
			}
		}
	}
	return l
}

func TestServeAtTheEdges(t *testing.T) {
	told := map[string]int{}
	for _, table := range rightTables() {
		for _, a := range placedAsks(table) {
			text := askBytesOf(a)
			got := serveIs(t, table, text, served(table, text))
			told[got.Answer[:1]]++
			// Bytes that are none come ahead of a place that is not there.
			for _, wrong := range []string{text[:1], text[:4], text[:len(text)-1], text + "\x00"} {
				serveIs(t, table, wrong, impl.ServeOut{Table: table, Answer: string([]byte{text[0] + 128, impl.ExValue})})
			}
		}
	}
	for _, fc := range allFcs() {
		good, refused := string([]byte{byte(fc)}), string([]byte{byte(fc) + 128})
		if told[good] < 40 || told[refused] < 40 {
			t.Errorf("Fc %d: just %d are answered, and %d refused", fc, told[good], told[refused])
		}
	}
}

func TestServeFirstBytes(t *testing.T) {
	tails := []string{"", "\x00", "\x00\x01\x00\x01", "\x00\x01\xff\x00", "\x00\x01\x00\x01\x01\x01", "\x00\x01\x00\x01\x02\x00\x01", "\xff\xff\x00\x01"}
	for _, table := range []impl.Table{{}, mixedTable(10, 4), mixedTable(24, 12)} {
		for first := range 256 {
			for _, tail := range tails {
				text := string([]byte{byte(first)}) + tail
				want := served(table, text)
				if _, ok := askFormOf(int64(first)); !ok {
					want = impl.ServeOut{Table: table, Answer: string([]byte{byte(first | 128), impl.ExCode})}
				}
				serveIs(t, table, text, want)
			}
		}
	}
}

func TestServeSizes(t *testing.T) {
	table := mixedTable(10, 4)
	for _, ahead := range []string{"\x00", "\x07", "\x83", "\x06\x00\x00\x00\x00", "\x10\x00\x00\x00\x04\x08", "\x03\x00\x09\x00\x01"} {
		first := ahead[0]
		exception := byte(impl.ExCode)
		if _, ok := askFormOf(int64(first)); ok {
			exception = impl.ExValue
		}
		refused := impl.ServeOut{Table: table, Answer: string([]byte{first | 128, exception})}
		for _, long := range []int{impl.MaxBytes - 1, impl.MaxBytes} {
			serveIs(t, table, ahead+strings.Repeat("\x00", long-len(ahead)), refused)
		}
		for _, long := range []int{impl.MaxBytes + 1, impl.MaxBytes + 2, 2 * impl.MaxBytes} {
			text := ahead + strings.Repeat("\x00", long-len(ahead))
			serveIs(t, table, text, impl.ServeOut{Code: impl.ErrSize})
			serveIs(t, mixedTable(25, 0), text, impl.ServeOut{Code: impl.ErrSize})
		}
	}
}

func TestServeForm(t *testing.T) {
	form := impl.ServeOut{Code: impl.ErrForm}
	for _, table := range rightTables() {
		serveIs(t, table, "", form)
	}
	for _, table := range wrongTables() {
		for _, text := range []string{"", "\x00", "\x03", "\xff", "\x03\x00\x00\x00\x01", "\x06\x00\x00\x00\x00", "\x05\x00\x00\xff\x00", strings.Repeat("x", impl.MaxBytes)} {
			serveIs(t, table, text, form)
		}
	}
}

// getAll asks for each cell by itself; what is told of it must be just what it was set to.
func getAll(t *testing.T, table impl.Table, coils []int64, regs []int64) {
	t.Helper()
	for at, n := range coils {
		serveIs(t, table, string([]byte{1, 0, byte(at), 0, 1}), impl.ServeOut{Table: table, Answer: string([]byte{1, 1, byte(n)})})
	}
	for at, n := range regs {
		serveIs(t, table, string([]byte{3, 0, byte(at), 0, 1}), impl.ServeOut{Table: table, Answer: string([]byte{3, 2, byte(n >> 8), byte(n)})})
	}
}

// setsOne sets one cell by a question of either Fc, and looks at all cells behind it.
func setsOne(t *testing.T, table impl.Table, want impl.Table, fcs [2]int64, at int, n int64) {
	t.Helper()
	for _, fc := range fcs {
		text := impl.AskBytes(impl.Ask{Fc: fc, At: int64(at), Many: 1, Values: []int64{n}})
		got := serveIs(t, table, text, impl.ServeOut{Table: want, Answer: text[:5]})
		getAll(t, got.Table, want.Coils, want.Regs)
	}
}

func TestEachCellIsGotAsItWasSet(t *testing.T) {
	for _, size := range [][2]int{{1, 1}, {10, 4}, {24, 12}} {
		for _, table := range []impl.Table{impl.TableNew(int64(size[0]), int64(size[1])), mixedTable(size[0], size[1])} {
			for at := range table.Coils {
				for _, n := range []int64{0, 1} {
					want := ownTable(table)
					want.Coils[at] = n
					setsOne(t, table, want, [2]int64{impl.FcCoil, impl.FcManyCoils}, at, n)
				}
			}
			for at := range table.Regs {
				for _, n := range []int64{0, 1, 255, 256, 4660, 32767, 32768, 65280, 65534, 65535} {
					want := ownTable(table)
					want.Regs[at] = n
					setsOne(t, table, want, [2]int64{impl.FcReg, impl.FcManyRegs}, at, n)
				}
			}
		}
	}
}

func TestEachWordIsGotAsItWasSet(t *testing.T) {
	table := impl.TableNew(0, 3)
	for n := range int64(65536) {
		set := impl.Serve(table, impl.AskBytes(impl.Ask{Fc: impl.FcReg, At: 1, Many: 1, Values: []int64{n}}))
		if got := impl.Serve(set.Table, "\x03\x00\x00\x00\x03").Answer; got != string([]byte{3, 6, 0, 0, byte(n >> 8), byte(n), 0, 0}) {
			t.Fatalf("%d is got as %q", n, got)
		}
	}
}

// Many questions, one behind the other, against coils and regs that are kept in arrays beside it.
func TestServeGoesOn(t *testing.T) {
	source := rand.New(rand.NewSource(6))
	table := impl.TableNew(24, 12)
	var coils [24]int64
	var regs [12]int64
	for range 20000 {
		fc := allFcs()[source.Intn(6)]
		form, _ := askFormOf(fc)
		a := impl.Ask{Fc: fc, At: source.Int63n(27), Many: 1 + source.Int63n(min(form.most, 26))}
		cells := regs[:]
		if form.coils {
			cells = coils[:]
		}
		fits := a.At+a.Many <= int64(len(cells))
		for i := range a.Many {
			if !form.sets {
				break
			}
			a.Values = append(a.Values, source.Int63n(form.top+1))
			if fits {
				cells[a.At+i] = a.Values[i]
			}
		}
		out := impl.Serve(table, impl.AskBytes(a))
		if out.Code != impl.OK || impl.AnswerGood(out.Answer) != fits {
			t.Fatalf("Serve of %+v = %+v", a, out)
		}
		if !sameTable(out.Table, impl.Table{Coils: coils[:], Regs: regs[:]}) {
			t.Fatalf("behind %+v the table is %+v, want %v and %v", a, out.Table, coils, regs)
		}
		table = out.Table
	}
}

func TestAnswerGood(t *testing.T) {
	for _, tail := range []string{"", "\x00", "\x80", "\xff\x01", strings.Repeat("\x00", impl.MaxBytes-1)} {
		for first := range 256 {
			text := string([]byte{byte(first)}) + tail
			if got := impl.AnswerGood(text); got != (first < 128) {
				t.Errorf("AnswerGood(%.20q) of %d bytes = %v", text, len(text), got)
			}
		}
	}
	for _, text := range []string{"", strings.Repeat("\x00", impl.MaxBytes+1), strings.Repeat("\x7f", 2*impl.MaxBytes)} {
		if impl.AnswerGood(text) {
			t.Errorf("AnswerGood of %d bytes = true", len(text))
		}
	}
}

// spoil writes over all of a list, also what lies behind its end, as far as it reaches.
func spoil(l []int64) {
	l = l[:cap(l)]
	for i := range l {
		l[i] = 77777
	}
}

func sharesText(a string, b string) bool {
	if a == "" || b == "" {
		return false
	}
	from, first := uintptr(unsafe.Pointer(unsafe.StringData(a))), uintptr(unsafe.Pointer(unsafe.StringData(b)))
	return from < first+uintptr(len(b)) && first < from+uintptr(len(a))
}

func TestTableMemory(t *testing.T) {
	for _, made := range rightTables() {
		for _, a := range placedAsks(made) {
			// Both lists are pieces of one, with something behind each.
			whole := append(append(append(append([]int64{}, made.Coils...), 9), made.Regs...), 9)
			kept := append([]int64{}, whole...)
			long := len(made.Coils)
			table := impl.Table{Coils: whole[:long], Regs: whole[long+1 : len(whole)-1]}
			text := strings.Clone(askBytesOf(a))
			out := impl.Serve(table, text)
			if !reflect.DeepEqual(whole, kept) || !sameTable(table, made) || text != askBytesOf(a) {
				t.Fatalf("Serve of %+v changed what was handed in: %v", a, whole)
			}
			if sharesText(out.Answer, text) {
				t.Fatalf("the answer to %q is a piece of it", text)
			}
			other := impl.Serve(table, text)
			regs := append([]int64{}, out.Table.Regs...)
			spoil(out.Table.Coils)
			if !sameNums(out.Table.Regs, regs) {
				t.Fatal("the lists of one answer share memory")
			}
			spoil(out.Table.Regs)
			if !reflect.DeepEqual(whole, kept) || !sameServe(other, served(made, text)) {
				t.Fatalf("an answer to %+v shares memory", a)
			}
		}
	}
}

func TestTableNewMemory(t *testing.T) {
	first, second := impl.TableNew(24, 12), impl.TableNew(24, 12)
	spoil(first.Coils)
	if !sameNums(first.Regs, make([]int64, 12)) {
		t.Error("the lists of one table share memory")
	}
	spoil(first.Regs)
	if want := (impl.Table{Coils: make([]int64, 24), Regs: make([]int64, 12)}); !sameTable(second, want) || !sameTable(impl.TableNew(24, 12), want) {
		t.Error("two tables share memory")
	}
}

func FuzzTable(f *testing.F) {
	for _, a := range placedAsks(mixedTable(10, 4)) {
		f.Add(askBytesOf(a), uint32(0x155), uint8(10), "\x01\x02\x03\x04\x05\x06\x07\x08", int64(1))
	}
	f.Fuzz(func(t *testing.T, text string, bits uint32, many uint8, words string, turn int64) {
		var table impl.Table
		for i := range many % 27 {
			table.Coils = append(table.Coils, int64(bits>>i&1))
		}
		for i := 0; i+1 < len(words) && i < 28; i += 2 {
			table.Regs = append(table.Regs, (int64(words[i])<<8|int64(words[i+1]))*turn)
		}
		right := tableIsRight(table)
		if impl.TableRight(table) != right {
			t.Errorf("TableRight(%v) is not %v", table, right)
		}
		kept := ownTable(table)
		out := serveIs(t, table, text, served(table, text))
		if !sameTable(table, kept) {
			t.Errorf("Serve(%v, %q) changed the table", kept, text)
		}
		if out.Code == impl.OK && !impl.TableRight(out.Table) {
			t.Errorf("Serve(%v, %q) makes a table that is not right", kept, text)
		}
	})
}
