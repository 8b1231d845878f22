package tests

import (
	"encoding/binary"
	"hash/crc32"
	"math"
	"math/rand"
	"reflect"
	"slices"
	"strings"
	"testing"

	"loop.example/g00556/impl"
)

// sealedText is a text with the four bytes of its CRC behind it, whatever it is.
func sealedText(text string) string {
	return string(binary.LittleEndian.AppendUint32([]byte(text), crc32.ChecksumIEEE([]byte(text))))
}

// letterBytes is what a letter would be of any id and any body.
func letterBytes(id int64, body string) string {
	return sealedText(numsBytes(id, int64(len(body))) + body)
}

// letterIs is what LetterOf must answer, in the document's words.
func letterIs(id int64, body string) string {
	if !within(id, 1, 1000000) || !within(int64(len(body)), 1, 40) {
		return ""
	}
	return letterBytes(id, body)
}

// letterIn is what a letter has in it, if the text is one.
func letterIn(text string) (int64, string, bool) {
	id, idLong := binary.Varint([]byte(text))
	if idLong <= 0 {
		return 0, "", false
	}
	long, longLong := binary.Varint([]byte(text[idLong:]))
	from := int64(idLong + longLong)
	if longLong <= 0 || !within(long, 1, 40) || from+long > int64(len(text)) {
		return 0, "", false
	}
	body := text[from : from+long]
	return id, body, letterIs(id, body) == text
}

// masterIsRight is the document's words on a right Master.
func masterIsRight(m impl.Master) bool {
	if !within(m.Next, 1, 1000000) || len(m.Open) > 3 || len(m.Open)+len(m.Done) > 20 {
		return false
	}
	ids := map[int64]int{}
	for i, w := range m.Open {
		if !within(w.Id, 1, m.Next-1) || i > 0 && w.Id <= m.Open[i-1].Id {
			return false
		}
		if !within(int64(len(w.Text)), 1, 40) || !within(w.Tries, 1, 3) || !within(w.Age, 0, 2) {
			return false
		}
		ids[w.Id]++
	}
	for _, d := range m.Done {
		if !within(d.Id, 1, m.Next-1) || len(d.Answer) > 40 {
			return false
		}
		ids[d.Id]++
	}
	return len(ids) == len(m.Open)+len(m.Done)
}

// slaveIsRight is the document's words on a right Slave.
func slaveIsRight(s impl.Slave) bool {
	if !tableIsRight(s.Table) || !within(s.Low, 0, 1000000) || !within(s.Runs, 0, 1000000) || len(s.Cache) > 4 {
		return false
	}
	for i, d := range s.Cache {
		if !within(d.Id, s.Low+1, 1000000) || i > 0 && d.Id <= s.Cache[i-1].Id || !within(int64(len(d.Answer)), 1, 40) {
			return false
		}
	}
	return true
}

// bareMaster is the same master in memory of its own, an empty list and none alike.
func bareMaster(m impl.Master) impl.Master {
	return impl.Master{Next: m.Next, Open: append([]impl.Wait(nil), m.Open...), Done: append([]impl.Done(nil), m.Done...)}
}

func bareMasterOut(out impl.MasterOut) impl.MasterOut {
	return impl.MasterOut{Master: bareMaster(out.Master), Sent: append([]string(nil), out.Sent...), Id: out.Id, Code: out.Code}
}

func sameMaster(a impl.Master, b impl.Master) bool {
	return reflect.DeepEqual(bareMaster(a), bareMaster(b))
}

func sameMasterOut(a impl.MasterOut, b impl.MasterOut) bool {
	return reflect.DeepEqual(bareMasterOut(a), bareMasterOut(b))
}

func bareSlave(s impl.Slave) impl.Slave {
	return impl.Slave{Table: ownTable(s.Table), Low: s.Low, Cache: append([]impl.Done(nil), s.Cache...), Runs: s.Runs}
}

func sameSlave(a impl.Slave, b impl.Slave) bool {
	return reflect.DeepEqual(bareSlave(a), bareSlave(b))
}

func sameSlaveOut(a impl.SlaveOut, b impl.SlaveOut) bool {
	return sameSlave(a.Slave, b.Slave) && a.Answer == b.Answer && a.Code == b.Code
}

// masterIs looks at one answer, and whether a right master stays right.
func masterIs(t *testing.T, what string, m impl.Master, with string, got impl.MasterOut, want impl.MasterOut) impl.MasterOut {
	t.Helper()
	if !sameMasterOut(got, want) {
		t.Fatalf("%s of %.900v and %.90q\n got %.900v\nwant %.900v", what, m, with, got, want)
	}
	if got.Code == impl.OK && !masterIsRight(got.Master) {
		t.Fatalf("%s of %.900v and %.90q makes a master that is not right: %.900v", what, m, with, got)
	}
	return got
}

// slaveIs looks at one answer, and whether a right slave stays right.
func slaveIs(t *testing.T, s impl.Slave, text string, got impl.SlaveOut, want impl.SlaveOut) impl.SlaveOut {
	t.Helper()
	if !sameSlaveOut(got, want) {
		t.Fatalf("SlaveTake(%.600v, %.90q)\n got %.600v\nwant %.600v", s, text, got, want)
	}
	if got.Code == impl.OK && !slaveIsRight(got.Slave) {
		t.Fatalf("SlaveTake(%.600v, %.90q) makes a slave that is not right: %.600v", s, text, got)
	}
	return got
}

// issued, ticked, taken and slaveTaken are what must be answered, in the document's words.
func issued(given impl.Master, ask string) impl.MasterOut {
	switch {
	case len(ask) > 8000:
		return impl.MasterOut{Code: 2}
	case !masterIsRight(given) || !within(int64(len(ask)), 1, 40):
		return impl.MasterOut{Code: 1}
	case len(given.Open) == 3 || len(given.Done)+len(given.Open) == 20 || given.Next == 1000000:
		return impl.MasterOut{Code: 9}
	}
	m := bareMaster(given)
	m.Open = append(m.Open, impl.Wait{Id: given.Next, Text: ask, Tries: 1})
	m.Next++
	return impl.MasterOut{Master: m, Sent: []string{letterIs(given.Next, ask)}, Id: given.Next}
}

func ticked(given impl.Master) impl.MasterOut {
	if !masterIsRight(given) {
		return impl.MasterOut{Code: 1}
	}
	out := impl.MasterOut{Master: impl.Master{Next: given.Next, Done: bareMaster(given).Done}}
	for _, w := range given.Open {
		if w.Age == 2 && w.Tries == 3 {
			out.Master.Done = append(out.Master.Done, impl.Done{Id: w.Id})
			continue
		}
		if w.Age++; w.Age == 3 {
			w.Tries, w.Age = w.Tries+1, 0
			out.Sent = append(out.Sent, letterIs(w.Id, w.Text))
		}
		out.Master.Open = append(out.Master.Open, w)
	}
	return out
}

func taken(given impl.Master, text string) impl.MasterOut {
	if len(text) > 8000 {
		return impl.MasterOut{Code: 2}
	}
	if !masterIsRight(given) {
		return impl.MasterOut{Code: 1}
	}
	id, body, ok := letterIn(text)
	if !ok {
		return impl.MasterOut{Code: 3}
	}
	m := bareMaster(given)
	at := slices.IndexFunc(m.Open, func(w impl.Wait) bool { return w.Id == id })
	if at < 0 {
		return impl.MasterOut{Code: 6}
	}
	m.Open = append(m.Open[:at], m.Open[at+1:]...)
	m.Done = append(m.Done, impl.Done{Id: id, Answer: body})
	return impl.MasterOut{Master: m, Id: id}
}

func slaveTaken(given impl.Slave, text string) impl.SlaveOut {
	if len(text) > 8000 {
		return impl.SlaveOut{Code: 2}
	}
	if !slaveIsRight(given) {
		return impl.SlaveOut{Code: 1}
	}
	id, body, ok := letterIn(text)
	if !ok {
		return impl.SlaveOut{Code: 3}
	}
	s := bareSlave(given)
	for _, d := range s.Cache {
		if d.Id == id {
			return impl.SlaveOut{Slave: s, Answer: letterIs(id, d.Answer)}
		}
	}
	if id <= s.Low {
		return impl.SlaveOut{Code: 10}
	}
	if s.Runs == 1000000 {
		return impl.SlaveOut{Code: 9}
	}
	run := served(s.Table, body)
	s.Table, s.Runs = run.Table, s.Runs+1
	s.Cache = append(s.Cache, impl.Done{Id: id, Answer: run.Answer})
	slices.SortFunc(s.Cache, func(a, b impl.Done) int { return int(a.Id - b.Id) })
	if len(s.Cache) == 5 {
		s.Low, s.Cache = s.Cache[0].Id, s.Cache[1:]
	}
	return impl.SlaveOut{Slave: s, Answer: letterIs(id, run.Answer)}
}

// edgeIds are ids, and numbers that are none.
func edgeIds() []int64 {
	return append(edgeTimes(), -64, 3, 63, 64, 65, 8191, 8192, 1<<32+1, math.MinInt64+1)
}

// edgeLetterBodies are bodies of letters, and texts that are none.
func edgeLetterBodies() []string {
	return []string{
		"", "a", "\x00", "\xff", "\x80", "ab", "\x06\x00\x01\x00\x09", manyBytes(4), manyBytes(39), manyBytes(40), strings.Repeat("\x00", 40), strings.Repeat("\xff", 40),
		manyBytes(41), manyBytes(42), manyBytes(63), manyBytes(64), manyBytes(296), manyBytes(impl.MaxBytes - 8), manyBytes(impl.MaxBytes), manyBytes(impl.MaxBytes + 1),
	}
}

func TestLetterOf(t *testing.T) {
	for _, id := range edgeIds() {
		for _, body := range edgeLetterBodies() {
			if got, want := impl.LetterOf(id, body), letterIs(id, body); got != want {
				t.Errorf("LetterOf(%d, %.50q) = %.60q, want %.60q", id, body, got, want)
			}
		}
	}
	for long := range 60 {
		if got, want := impl.LetterOf(7, manyBytes(long)), letterIs(7, manyBytes(long)); got != want || (got == "") != (long < 1 || long > 40) {
			t.Errorf("LetterOf of %d bytes = %.60q, want %.60q", long, got, want)
		}
	}
	for id := int64(1); id <= impl.MaxTime; id += 37 {
		if got := impl.LetterOf(id, "ask"); got != letterIs(id, "ask") {
			t.Fatalf("LetterOf(%d, ask) = %q", id, got)
		}
	}
}

func TestLetterOfByHand(t *testing.T) {
	for _, c := range []struct {
		id   int64
		body string
		want string
	}{
		{1, "a", "\x02\x02a"}, {63, "ab", "\x7e\x04ab"}, {64, "ab", "\x80\x01\x04ab"}, {impl.MaxTime, "a", "\x80\x89\x7a\x02a"},
		{1, manyBytes(40), "\x02\x50" + manyBytes(40)},
	} {
		if got := impl.LetterOf(c.id, c.body); got != impl.Seal(c.want) || len(got) != len(c.want)+4 {
			t.Errorf("LetterOf(%d, %q) = %q, want the seal of %q", c.id, c.body, got, c.want)
		}
	}
	for _, id := range []int64{0, -1, impl.MaxTime + 1} {
		if got := impl.LetterOf(id, "a"); got != "" {
			t.Errorf("LetterOf(%d, a) = %q", id, got)
		}
	}
	for _, body := range []string{"", manyBytes(41), manyBytes(impl.MaxBytes + 1)} {
		if got := impl.LetterOf(1, body); got != "" {
			t.Errorf("LetterOf of %d bytes = %q", len(body), got)
		}
	}
}

// wrongLetters are texts that are no letters, though some of them nearly are one of that id and body.
func wrongLetters(id int64, body string) []string {
	whole := letterBytes(id, body)
	long := int64(len(body))
	l := []string{
		"", "\x00", "x", "ask", body, whole[:len(whole)-4], sealedText(""), sealedText("x"), sealedText(body), sealedText(numsBytes(id)), sealedText(numsBytes(id, long)),
		// An id of none, a body of none and too long a one.
		letterBytes(0, body), letterBytes(-1, body), letterBytes(-id, body), letterBytes(impl.MaxTime+1, body), letterBytes(math.MaxInt64, body), letterBytes(math.MinInt64, body), letterBytes(id+1<<32, body),
		letterBytes(id, ""), letterBytes(id, manyBytes(41)), letterBytes(id, manyBytes(64)), letterBytes(id, manyBytes(296)), letterBytes(id, manyBytes(impl.MaxBytes-100)),
		// Numbers that are written longer than they need, and counts that are not the body's.
		sealedText(longNum(id, 1) + numsBytes(long) + body), sealedText(longNum(id, 2) + numsBytes(long) + body), sealedText(longNum(id, 7) + numsBytes(long) + body),
		sealedText(numsBytes(id) + longNum(long, 1) + body), sealedText(numsBytes(id) + longNum(long, 2) + body), sealedText(numsBytes(id) + longNum(long, 9) + body),
		sealedText(numsBytes(id, long+1) + body), sealedText(numsBytes(id, long-1) + body), sealedText(numsBytes(id, -long) + body), sealedText(numsBytes(id, long+4) + body), sealedText(numsBytes(id, math.MaxInt64) + body), sealedText(numsBytes(id, math.MinInt64) + body),
		sealedText(strings.Repeat("\xff", 10) + body), sealedText(strings.Repeat("\x80", 9) + "\x02" + numsBytes(long) + body),
		// Bytes behind the body, ahead of the id, behind the seal, and more than one of a thing.
		sealedText(numsBytes(id, long) + body + "\x00"), sealedText(numsBytes(id, long) + body + "x"), sealedText("\x00" + numsBytes(id, long) + body), sealedText(numsBytes(id, id, long) + body),
		whole + "\x00", "\x00" + whole, whole + whole, sealedText(whole), sealedText(whole + whole),
		sealedText(numsBytes(id, long) + body + strings.Repeat("\x00", impl.MaxBytes-100)),
	}
	for end := range whole {
		l = append(l, whole[:end], whole[end+1:], whole[:end]+whole[end+1:], whole[:end]+"\x00"+whole[end:])
	}
	// A cut letter may be one again that is sealed anew, but not of these.
	return slices.DeleteFunc(l, func(text string) bool {
		_, _, ok := letterIn(text)
		return ok
	})
}

// masterWith has these Ids open and done, whose other fields are of all kinds that may be.
func masterWith(next int64, open []int64, done []int64) impl.Master {
	m := impl.Master{Next: next}
	for i, id := range open {
		m.Open = append(m.Open, impl.Wait{Id: id, Text: manyBytes(1 + (i*39+int(next))%40), Tries: 1 + (int64(i)+next)%3, Age: (int64(i) + id) % 3})
	}
	for i, id := range done {
		m.Done = append(m.Done, impl.Done{Id: id, Answer: manyBytes([]int{0, 40, 1, 7}[i%4])})
	}
	return m
}

// idsFrom are so many ids from one on, down or up.
func idsFrom(first int64, step int64, many int) []int64 {
	l := make([]int64, many)
	for i := range l {
		l[i] = first + int64(i)*step
	}
	return l
}

// agedMasters have three, two and one open, of each Tries and each Age.
func agedMasters() []impl.Master {
	var l []impl.Master
	for kinds := range 9 * 9 * 9 {
		m := masterWith(30, []int64{4, 9, 20}, []int64{25, 1, 3})
		for i, of := range []int{kinds % 9, kinds / 9 % 9, kinds / 81} {
			m.Open[i].Tries, m.Open[i].Age = int64(1+of%3), int64(of/3)
		}
		l = append(l, m)
		if kinds < 81 {
			two := bareMaster(m)
			two.Open = two.Open[:2]
			l = append(l, two)
		}
		if kinds < 9 {
			one := bareMaster(m)
			one.Open = one.Open[:1]
			l = append(l, one)
		}
	}
	return l
}

// rightMasters are at each of the ends that a Master has.
func rightMasters() []impl.Master {
	l := []impl.Master{
		{Next: 1}, {Next: 2}, {Next: impl.MaxTime - 1}, {Next: impl.MaxTime}, {Next: 1, Open: []impl.Wait{}, Done: []impl.Done{}},
		masterWith(2, []int64{1}, nil), masterWith(2, nil, []int64{1}), masterWith(3, []int64{1, 2}, nil), masterWith(3, []int64{2}, []int64{1}), masterWith(3, []int64{1}, []int64{2}), masterWith(3, nil, []int64{2, 1}),
		masterWith(4, []int64{1, 2, 3}, nil), masterWith(21, nil, idsFrom(1, 1, 20)), masterWith(21, nil, idsFrom(20, -1, 20)),
	}
	for _, next := range []int64{30, 64, 65, 8192, impl.MaxTime - 1, impl.MaxTime} {
		for _, open := range [][]int64{nil, {1}, {5}, {next - 1}, {1, 2}, {5, 9}, {1, next - 1}, {next - 2, next - 1}, {1, 2, 3}, {4, 9, 20}, {1, 9, next - 1}, {next - 3, next - 2, next - 1}} {
			l = append(l, masterWith(next, open, nil))
			for _, many := range []int{1, 2, 16, 17, 18, 19, 20} {
				var spare []int64
				for id := next - 1; len(spare) < min(many, 20-len(open)); id-- {
					if !slices.Contains(open, id) {
						spare = append(spare, id)
					}
				}
				// In no order: the odd ones first, as they stand.
				slices.SortStableFunc(spare, func(a, b int64) int { return int(b%2 - a%2) })
				l = append(l, masterWith(next, open, spare))
			}
		}
	}
	return append(l, agedMasters()...)
}

// wrongMasters have just one thing that may not be.
func wrongMasters() []impl.Master {
	var l []impl.Master
	change := func(do func(m *impl.Master)) {
		m := masterWith(30, []int64{4, 9, 20}, []int64{25, 1, 3})
		do(&m)
		l = append(l, m)
	}
	for _, next := range []int64{math.MinInt64, -1, 0, impl.MaxTime + 1, math.MaxInt64} {
		l = append(l, impl.Master{Next: next})
		change(func(m *impl.Master) { m.Next = next })
	}
	for _, next := range []int64{1, 2, 20, 21, 25} {
		change(func(m *impl.Master) { m.Next = next })
	}
	for at := range 3 {
		for _, id := range []int64{math.MinInt64, -9, -1, 0, 30, 31, impl.MaxTime, impl.MaxTime + 1, math.MaxInt64, 1, 3, 25} {
			change(func(m *impl.Master) { m.Open[at].Id = id })
		}
		for other := range 3 {
			if other != at {
				change(func(m *impl.Master) { m.Open[at].Id = m.Open[other].Id })
				change(func(m *impl.Master) { m.Open[at], m.Open[other] = m.Open[other], m.Open[at] })
				change(func(m *impl.Master) { m.Done[at].Id = m.Done[other].Id })
			}
			change(func(m *impl.Master) { m.Done[at].Id = m.Open[other].Id })
		}
		for _, text := range []string{"", manyBytes(41), manyBytes(256), manyBytes(296), manyBytes(impl.MaxBytes), manyBytes(impl.MaxBytes + 1)} {
			change(func(m *impl.Master) { m.Open[at].Text = text })
			if text != "" {
				change(func(m *impl.Master) { m.Done[at].Answer = text })
			}
		}
		for _, n := range []int64{math.MinInt64, -1, 0, 4, 5, 257, 1<<32 + 1, math.MaxInt64} {
			change(func(m *impl.Master) { m.Open[at].Tries = n })
		}
		for _, n := range []int64{math.MinInt64, -3, -1, 3, 4, 256, 1 << 32, math.MaxInt64} {
			change(func(m *impl.Master) { m.Open[at].Age = n })
		}
		for _, id := range []int64{math.MinInt64, -1, 0, 30, 31, impl.MaxTime + 1, math.MaxInt64} {
			change(func(m *impl.Master) { m.Done[at].Id = id })
		}
	}
	return append(l,
		masterWith(30, []int64{4, 9, 20, 21}, nil), masterWith(30, []int64{4, 9, 20, 21}, []int64{1}), masterWith(30, idsFrom(1, 1, 20), nil), masterWith(5, []int64{1, 2, 3, 4}, nil),
		masterWith(30, nil, idsFrom(1, 1, 21)), masterWith(30, []int64{25}, idsFrom(1, 1, 20)), masterWith(30, []int64{25, 26}, idsFrom(1, 1, 19)), masterWith(30, []int64{25, 26, 27}, idsFrom(1, 1, 18)),
		masterWith(900, nil, idsFrom(1, 1, impl.MaxList)), masterWith(900, nil, idsFrom(1, 1, impl.MaxList+1)), masterWith(900, idsFrom(1, 1, impl.MaxList+1), nil),
		masterWith(900, nil, idsFrom(1, 1, 256)), masterWith(900, idsFrom(1, 1, 256), nil), masterWith(30, nil, listOf(20, 7)), masterWith(30, listOf(2, 7), nil), masterWith(30, []int64{9, 4}, nil),
		masterWith(1, []int64{1}, nil), masterWith(1, nil, []int64{1}), masterWith(2, []int64{2}, nil), masterWith(2, nil, []int64{2}), masterWith(2, []int64{1}, []int64{1}),
	)
}

func TestMasterRight(t *testing.T) {
	for _, m := range rightMasters() {
		if !masterIsRight(m) || !impl.MasterRight(m) {
			t.Errorf("MasterRight(%.500v) = false", m)
		}
	}
	for _, m := range wrongMasters() {
		if masterIsRight(m) || impl.MasterRight(m) {
			t.Errorf("MasterRight(%.500v) = true", m)
		}
	}
}

func TestMasterRightByHand(t *testing.T) {
	wait := func(id int64) impl.Wait { return impl.Wait{Id: id, Text: "a", Tries: 1} }
	for _, c := range []struct {
		m    impl.Master
		want bool
	}{
		{impl.Master{}, false}, {impl.Master{Next: 1}, true}, {impl.Master{Next: impl.MaxTime}, true}, {impl.Master{Next: impl.MaxTime + 1}, false}, {impl.Master{Next: -1}, false},
		{impl.Master{Next: 2, Open: []impl.Wait{wait(1)}}, true}, {impl.Master{Next: 1, Open: []impl.Wait{wait(1)}}, false}, {impl.Master{Next: 2, Open: []impl.Wait{wait(0)}}, false},
		{impl.Master{Next: 2, Open: []impl.Wait{{}}}, false}, {impl.Master{Next: 2, Open: []impl.Wait{{Id: 1, Text: "a"}}}, false}, {impl.Master{Next: 2, Open: []impl.Wait{{Id: 1, Tries: 1}}}, false},
		{impl.Master{Next: 2, Open: []impl.Wait{{Id: 1, Text: "a", Tries: 3, Age: 2}}}, true}, {impl.Master{Next: 2, Open: []impl.Wait{{Id: 1, Text: "a", Tries: 4, Age: 2}}}, false}, {impl.Master{Next: 2, Open: []impl.Wait{{Id: 1, Text: "a", Tries: 3, Age: 3}}}, false},
		{impl.Master{Next: 9, Open: []impl.Wait{wait(2), wait(5), wait(8)}}, true}, {impl.Master{Next: 9, Open: []impl.Wait{wait(2), wait(5), wait(9)}}, false},
		{impl.Master{Next: 9, Open: []impl.Wait{wait(2), wait(8), wait(5)}}, false}, {impl.Master{Next: 9, Open: []impl.Wait{wait(2), wait(2)}}, false}, {impl.Master{Next: 9, Open: []impl.Wait{wait(2), wait(3), wait(4), wait(5)}}, false},
		{impl.Master{Next: 2, Done: []impl.Done{{Id: 1}}}, true}, {impl.Master{Next: 2, Done: []impl.Done{{}}}, false}, {impl.Master{Next: 2, Done: []impl.Done{{Id: 2}}}, false},
		{impl.Master{Next: 9, Done: []impl.Done{{Id: 8}, {Id: 1}, {Id: 3}}}, true}, {impl.Master{Next: 9, Done: []impl.Done{{Id: 8}, {Id: 1}, {Id: 8}}}, false},
		{impl.Master{Next: 9, Open: []impl.Wait{wait(3)}, Done: []impl.Done{{Id: 8}, {Id: 2}}}, true}, {impl.Master{Next: 9, Open: []impl.Wait{wait(3)}, Done: []impl.Done{{Id: 8}, {Id: 3}}}, false},
		{impl.Master{Next: 9, Done: []impl.Done{{Id: 8, Answer: manyBytes(40)}}}, true}, {impl.Master{Next: 9, Done: []impl.Done{{Id: 8, Answer: manyBytes(41)}}}, false},
	} {
		if got := impl.MasterRight(c.m); got != c.want {
			t.Errorf("MasterRight(%.300v) = %v", c.m, got)
		}
	}
}

func issueIs(t *testing.T, m impl.Master, ask string) impl.MasterOut {
	t.Helper()
	return masterIs(t, "Issue", m, ask, impl.Issue(m, ask), issued(m, ask))
}

func tickIs(t *testing.T, m impl.Master) impl.MasterOut {
	t.Helper()
	return masterIs(t, "MasterTick", m, "", impl.MasterTick(m), ticked(m))
}

func takeIs(t *testing.T, m impl.Master, text string) impl.MasterOut {
	t.Helper()
	return masterIs(t, "MasterTake", m, text, impl.MasterTake(m, text), taken(m, text))
}

func slaveTakeIs(t *testing.T, s impl.Slave, text string) impl.SlaveOut {
	t.Helper()
	return slaveIs(t, s, text, impl.SlaveTake(s, text), slaveTaken(s, text))
}

func TestIssue(t *testing.T) {
	told := map[int64]int{}
	for _, m := range append(rightMasters(), wrongMasters()...) {
		for _, ask := range edgeLetterBodies() {
			told[issueIs(t, m, ask).Code]++
		}
	}
	for _, code := range []int64{impl.OK, impl.ErrForm, impl.ErrSize, impl.ErrFull} {
		if told[code] < 100 {
			t.Errorf("code %d is told %d times", code, told[code])
		}
	}
}

func TestIssueByHand(t *testing.T) {
	out := impl.Issue(impl.Master{Next: 1}, "a")
	first := impl.Wait{Id: 1, Text: "a", Tries: 1}
	masterIs(t, "Issue", impl.Master{Next: 1}, "a", out, impl.MasterOut{Master: impl.Master{Next: 2, Open: []impl.Wait{first}}, Sent: []string{impl.LetterOf(1, "a")}, Id: 1})
	ask := manyBytes(40)
	second := impl.Issue(out.Master, ask)
	masterIs(t, "Issue", out.Master, ask, second, impl.MasterOut{Master: impl.Master{Next: 3, Open: []impl.Wait{first, {Id: 2, Text: ask, Tries: 1}}}, Sent: []string{impl.LetterOf(2, ask)}, Id: 2})

	open3, all20, last := masterWith(30, []int64{4, 9, 20}, nil), masterWith(30, []int64{4}, idsFrom(5, 1, 19)), masterWith(impl.MaxTime, []int64{4}, nil)
	full, form, size := impl.MasterOut{Code: impl.ErrFull}, impl.MasterOut{Code: impl.ErrForm}, impl.MasterOut{Code: impl.ErrSize}
	for _, m := range []impl.Master{open3, all20, last, masterWith(30, nil, idsFrom(5, 1, 20)), masterWith(30, []int64{1, 2, 3}, idsFrom(5, 1, 17)), {Next: impl.MaxTime}, masterWith(impl.MaxTime, []int64{4, 9, 20}, idsFrom(21, 1, 17))} {
		masterIs(t, "Issue", m, "a", impl.Issue(m, "a"), full)
		masterIs(t, "Issue", m, ask, impl.Issue(m, ask), full)
		// What is wrong comes ahead of what is full, and what is too long ahead of both.
		masterIs(t, "Issue", m, "", impl.Issue(m, ""), form)
		masterIs(t, "Issue", m, manyBytes(41), impl.Issue(m, manyBytes(41)), form)
		masterIs(t, "Issue", m, "8000 bytes", impl.Issue(m, manyBytes(impl.MaxBytes)), form)
		masterIs(t, "Issue", m, "8001 bytes", impl.Issue(m, manyBytes(impl.MaxBytes+1)), size)
	}
	for _, m := range []impl.Master{{}, {Next: impl.MaxTime + 1}, masterWith(30, []int64{4, 9, 20, 21}, nil), masterWith(30, nil, idsFrom(5, 1, 21))} {
		for _, ask := range []string{"", "a", manyBytes(40), manyBytes(41), manyBytes(impl.MaxBytes)} {
			masterIs(t, "Issue", m, ask, impl.Issue(m, ask), form)
		}
		masterIs(t, "Issue", m, "8001 bytes", impl.Issue(m, manyBytes(impl.MaxBytes+1)), size)
	}
	before := masterWith(impl.MaxTime-1, nil, nil)
	at := impl.Issue(before, "a")
	masterIs(t, "Issue", before, "a", at, impl.MasterOut{Master: impl.Master{Next: impl.MaxTime, Open: []impl.Wait{{Id: impl.MaxTime - 1, Text: "a", Tries: 1}}}, Sent: []string{impl.LetterOf(impl.MaxTime-1, "a")}, Id: impl.MaxTime - 1})
	masterIs(t, "Issue", at.Master, "a", impl.Issue(at.Master, "a"), full)
	if near := impl.Issue(masterWith(30, []int64{4, 9}, idsFrom(10, 1, 17)), "a"); near.Code != impl.OK || near.Id != 30 || len(near.Master.Open) != 3 {
		t.Errorf("the twentieth is told %v", near)
	}
}

func TestMasterTick(t *testing.T) {
	for _, m := range append(rightMasters(), wrongMasters()...) {
		for range 10 {
			out := tickIs(t, m)
			if out.Code != impl.OK {
				break
			}
			m = out.Master
		}
		if impl.MasterRight(m) && len(m.Open) > 0 {
			t.Fatalf("behind ten ticks this is open: %v", m)
		}
	}
}

func TestMasterTickByHand(t *testing.T) {
	wait := func(id int64, tries int64, age int64) impl.Wait {
		return impl.Wait{Id: id, Text: "ask" + string([]byte{byte(id)}), Tries: tries, Age: age}
	}
	letter := func(id int64) string { return impl.LetterOf(id, "ask"+string([]byte{byte(id)})) }
	for _, c := range []struct {
		open []impl.Wait
		want []impl.Wait
		sent []string
		over []int64
	}{
		{nil, nil, nil, nil},
		{[]impl.Wait{wait(1, 1, 0)}, []impl.Wait{wait(1, 1, 1)}, nil, nil},
		{[]impl.Wait{wait(1, 3, 0)}, []impl.Wait{wait(1, 3, 1)}, nil, nil},
		{[]impl.Wait{wait(1, 1, 1)}, []impl.Wait{wait(1, 1, 2)}, nil, nil},
		{[]impl.Wait{wait(1, 1, 2)}, []impl.Wait{wait(1, 2, 0)}, []string{letter(1)}, nil},
		{[]impl.Wait{wait(1, 2, 2)}, []impl.Wait{wait(1, 3, 0)}, []string{letter(1)}, nil},
		{[]impl.Wait{wait(1, 3, 2)}, nil, nil, []int64{1}},
		{[]impl.Wait{wait(1, 3, 2), wait(2, 1, 0), wait(3, 1, 2)}, []impl.Wait{wait(2, 1, 1), wait(3, 2, 0)}, []string{letter(3)}, []int64{1}},
		{[]impl.Wait{wait(1, 1, 2), wait(2, 3, 2), wait(3, 2, 2)}, []impl.Wait{wait(1, 2, 0), wait(3, 3, 0)}, []string{letter(1), letter(3)}, []int64{2}},
		{[]impl.Wait{wait(1, 3, 2), wait(2, 3, 2), wait(3, 3, 1)}, []impl.Wait{wait(3, 3, 2)}, nil, []int64{1, 2}},
		{[]impl.Wait{wait(1, 3, 1), wait(2, 3, 2), wait(3, 3, 2)}, []impl.Wait{wait(1, 3, 2)}, nil, []int64{2, 3}},
		{[]impl.Wait{wait(1, 3, 2), wait(2, 1, 1), wait(3, 3, 2)}, []impl.Wait{wait(2, 1, 2)}, nil, []int64{1, 3}},
		{[]impl.Wait{wait(1, 3, 2), wait(2, 3, 2), wait(3, 3, 2)}, nil, nil, []int64{1, 2, 3}},
		{[]impl.Wait{wait(1, 2, 2), wait(2, 2, 2), wait(3, 2, 2)}, []impl.Wait{wait(1, 3, 0), wait(2, 3, 0), wait(3, 3, 0)}, []string{letter(1), letter(2), letter(3)}, nil},
	} {
		given := impl.Master{Next: 9, Open: c.open, Done: []impl.Done{{Id: 7, Answer: "x"}, {Id: 5}}}
		want := impl.MasterOut{Master: impl.Master{Next: 9, Open: c.want, Done: []impl.Done{{Id: 7, Answer: "x"}, {Id: 5}}}, Sent: c.sent}
		for _, id := range c.over {
			want.Master.Done = append(want.Master.Done, impl.Done{Id: id})
		}
		masterIs(t, "MasterTick", given, "", impl.MasterTick(given), want)
	}
	for _, m := range []impl.Master{{}, {Next: 9, Open: []impl.Wait{wait(1, 4, 2)}}, {Next: 9, Open: []impl.Wait{wait(1, 3, 3)}}, {Next: 1, Open: []impl.Wait{wait(1, 1, 1)}}} {
		masterIs(t, "MasterTick", m, "", impl.MasterTick(m), impl.MasterOut{Code: impl.ErrForm})
	}
}

// lettersFor are letters of each id that a master has, of those beside, and of some bodies.
func lettersFor(m impl.Master) []string {
	ids := []int64{1, 2, m.Next - 1, m.Next, m.Next + 1, impl.MaxTime}
	for _, w := range m.Open {
		ids = append(ids, w.Id-1, w.Id, w.Id+1)
	}
	for _, d := range m.Done {
		ids = append(ids, d.Id)
	}
	var l []string
	for _, id := range ids {
		for _, body := range []string{"x", "\x86\x02", manyBytes(40)} {
			l = append(l, letterBytes(id, body))
		}
	}
	return l
}

func TestMasterTake(t *testing.T) {
	told := map[int64]int{}
	for _, m := range append(rightMasters(), wrongMasters()...) {
		for _, text := range lettersFor(m) {
			told[takeIs(t, m, text).Code]++
		}
	}
	for _, code := range []int64{impl.OK, impl.ErrForm, impl.ErrNone, impl.ErrSyntax} {
		if told[code] < 20 {
			t.Errorf("code %d is told %d times", code, told[code])
		}
	}
}

func TestMasterTakeByHand(t *testing.T) {
	wait := func(id int64) impl.Wait { return impl.Wait{Id: id, Text: "a", Tries: 2, Age: 1} }
	m := impl.Master{Next: 9, Open: []impl.Wait{wait(2), wait(5), wait(8)}, Done: []impl.Done{{Id: 7, Answer: "x"}, {Id: 4}}}
	with := func(open []impl.Wait, id int64, answer string) impl.MasterOut {
		return impl.MasterOut{Master: impl.Master{Next: 9, Open: open, Done: []impl.Done{{Id: 7, Answer: "x"}, {Id: 4}, {Id: id, Answer: answer}}}, Id: id}
	}
	code := func(code int64) impl.MasterOut { return impl.MasterOut{Code: code} }
	for _, c := range []struct {
		text string
		want impl.MasterOut
	}{
		{impl.LetterOf(2, "y"), with([]impl.Wait{wait(5), wait(8)}, 2, "y")},
		{impl.LetterOf(5, "\x86\x02"), with([]impl.Wait{wait(2), wait(8)}, 5, "\x86\x02")},
		{impl.LetterOf(8, manyBytes(40)), with([]impl.Wait{wait(2), wait(5)}, 8, manyBytes(40))},
		{impl.LetterOf(7, "y"), code(impl.ErrNone)}, {impl.LetterOf(4, "y"), code(impl.ErrNone)},
		{impl.LetterOf(1, "y"), code(impl.ErrNone)}, {impl.LetterOf(9, "y"), code(impl.ErrNone)}, {impl.LetterOf(impl.MaxTime, "y"), code(impl.ErrNone)},
		{"", code(impl.ErrSyntax)}, {"x", code(impl.ErrSyntax)}, {impl.Seal("x"), code(impl.ErrSyntax)}, {impl.LetterOf(2, "y") + "x", code(impl.ErrSyntax)},
		{impl.Seal(impl.PutNum(2) + impl.PutText("")), code(impl.ErrSyntax)}, {impl.Seal(impl.PutNum(2) + impl.PutText(manyBytes(41))), code(impl.ErrSyntax)}, {impl.Seal(impl.PutNum(0) + impl.PutText("y")), code(impl.ErrSyntax)},
		{impl.Seal(impl.PutNum(2) + impl.PutText("y") + "z"), code(impl.ErrSyntax)}, {impl.PutNum(2) + impl.PutText("y"), code(impl.ErrSyntax)},
		{impl.Seal("\x84\x00" + impl.PutText("y")), code(impl.ErrSyntax)}, {impl.Seal(impl.PutNum(2) + "\x82\x00y"), code(impl.ErrSyntax)},
	} {
		masterIs(t, "MasterTake", m, c.text, impl.MasterTake(m, c.text), c.want)
	}
}

// Each letter that is none is refused by both who take letters, also where the right one would be taken.
func TestNoLetters(t *testing.T) {
	m := masterWith(impl.MaxTime, []int64{1, 64, 9999}, []int64{2, 5})
	s := impl.Slave{Table: mixedTable(10, 4), Cache: []impl.Done{{Id: 1, Answer: "x"}, {Id: 70, Answer: "y"}}}
	badM, badS := impl.Master{}, impl.Slave{Low: -1}
	for _, id := range []int64{1, 64, 9999} {
		for _, body := range []string{"a", "\x06\x00\x01\x00\x09", manyBytes(40)} {
			wrong := wrongLetters(id, body)
			if len(wrong) < 50 {
				t.Fatalf("just %d of these are none", len(wrong))
			}
			for _, text := range wrong {
				masterIs(t, "MasterTake", m, text, impl.MasterTake(m, text), impl.MasterOut{Code: impl.ErrSyntax})
				slaveIs(t, s, text, impl.SlaveTake(s, text), impl.SlaveOut{Code: impl.ErrSyntax})
				masterIs(t, "MasterTake", badM, text, impl.MasterTake(badM, text), impl.MasterOut{Code: impl.ErrForm})
				slaveIs(t, badS, text, impl.SlaveTake(badS, text), impl.SlaveOut{Code: impl.ErrForm})
			}
		}
	}
}

func TestTurnedLetters(t *testing.T) {
	m := masterWith(impl.MaxTime, []int64{1, 64, 9999}, nil)
	s := impl.Slave{Table: mixedTable(10, 4)}
	for _, id := range []int64{1, 64, 9999} {
		for _, body := range []string{"a", "\x06\x00\x01\x00\x09", manyBytes(40)} {
			text := letterBytes(id, body)
			for at := range text {
				for by := 1; by < 256; by++ {
					turned := []byte(text)
					turned[at] ^= byte(by)
					masterIs(t, "MasterTake", m, string(turned), impl.MasterTake(m, string(turned)), impl.MasterOut{Code: impl.ErrSyntax})
					slaveIs(t, s, string(turned), impl.SlaveTake(s, string(turned)), impl.SlaveOut{Code: impl.ErrSyntax})
				}
			}
		}
	}
}

func TestLetterSizes(t *testing.T) {
	for _, ahead := range []string{"", letterBytes(4, "x"), numsBytes(4, 1) + "x", "\x80", "\xff"} {
		for _, long := range []int{255, 256, impl.MaxBytes - 1, impl.MaxBytes, impl.MaxBytes + 1, impl.MaxBytes + 2, 2 * impl.MaxBytes, 70000} {
			for _, text := range []string{ahead + strings.Repeat("\x00", long-len(ahead)), ahead + manyBytes(long-len(ahead)), sealedText(ahead + manyBytes(long-4-len(ahead)))} {
				code, form := int64(impl.ErrSyntax), int64(impl.ErrForm)
				if long > impl.MaxBytes {
					code, form = impl.ErrSize, impl.ErrSize
				}
				m, s := masterWith(30, []int64{4, 9, 20}, nil), impl.Slave{Table: mixedTable(10, 4)}
				masterIs(t, "MasterTake", m, text, impl.MasterTake(m, text), impl.MasterOut{Code: code})
				slaveIs(t, s, text, impl.SlaveTake(s, text), impl.SlaveOut{Code: code})
				masterIs(t, "MasterTake", impl.Master{}, text, impl.MasterTake(impl.Master{}, text), impl.MasterOut{Code: form})
				slaveIs(t, impl.Slave{Runs: -1}, text, impl.SlaveTake(impl.Slave{Runs: -1}, text), impl.SlaveOut{Code: form})
			}
		}
	}
	// A sealed body that fills all of the 8000 bytes is too long for a letter, not for the call.
	text := letterBytes(4, manyBytes(impl.MaxBytes-7))
	if len(text) != impl.MaxBytes || impl.MasterTake(masterWith(30, []int64{4}, nil), text).Code != impl.ErrSyntax || impl.SlaveTake(impl.Slave{}, text).Code != impl.ErrSyntax {
		t.Errorf("a letter of %d bytes is not refused", len(text))
	}
}

// slaveWith has these Ids in its Cache, above Low by so much.
func slaveWith(table impl.Table, low int64, above []int64, runs int64) impl.Slave {
	s := impl.Slave{Table: table, Low: low, Runs: runs}
	for i, n := range above {
		s.Cache = append(s.Cache, impl.Done{Id: low + n, Answer: manyBytes([]int{1, 40, 2, 7}[i%4])})
	}
	return s
}

func rightSlaves() []impl.Slave {
	l := []impl.Slave{{}, {Cache: []impl.Done{}, Table: impl.Table{Coils: []int64{}, Regs: []int64{}}}, {Low: impl.MaxTime}, {Runs: impl.MaxTime}, {Low: impl.MaxTime, Runs: impl.MaxTime}}
	for _, table := range []impl.Table{{}, mixedTable(10, 4), mixedTable(24, 12)} {
		for _, low := range []int64{0, 1, 10, 63, impl.MaxTime - 9, impl.MaxTime - 4} {
			for _, above := range [][]int64{nil, {1}, {2}, {1, 2}, {2, 4}, {1, 2, 3}, {2, 3, 4}, {1, 2, 3, 4}, {2, 4, 6, 8}, {3, 4, 8, 9}, {6, 7, 8, 9}} {
				for _, runs := range []int64{0, 1, 77, impl.MaxTime - 1, impl.MaxTime} {
					if s := slaveWith(table, low, above, runs); slaveIsRight(s) {
						l = append(l, s)
					}
				}
			}
		}
	}
	return l
}

// wrongSlaves have just one thing that may not be.
func wrongSlaves() []impl.Slave {
	var l []impl.Slave
	change := func(do func(s *impl.Slave)) {
		s := slaveWith(mixedTable(10, 4), 10, []int64{2, 4, 6, 8}, 77)
		do(&s)
		l = append(l, s)
	}
	for _, table := range wrongTables() {
		change(func(s *impl.Slave) { s.Table = table })
	}
	for _, n := range []int64{math.MinInt64, -1, impl.MaxTime + 1, math.MaxInt64} {
		l = append(l, impl.Slave{Low: n}, impl.Slave{Runs: n})
		change(func(s *impl.Slave) { s.Runs = n })
		change(func(s *impl.Slave) { s.Low = n })
	}
	for _, n := range []int64{12, 13, 14, 18, 19, impl.MaxTime} {
		change(func(s *impl.Slave) { s.Low = n })
	}
	for at := range 4 {
		for _, id := range []int64{math.MinInt64, -1, 0, 1, 9, 10, impl.MaxTime + 1, math.MaxInt64} {
			change(func(s *impl.Slave) { s.Cache[at].Id = id })
		}
		for other := range 4 {
			if other != at {
				change(func(s *impl.Slave) { s.Cache[at].Id = s.Cache[other].Id })
				change(func(s *impl.Slave) { s.Cache[at], s.Cache[other] = s.Cache[other], s.Cache[at] })
			}
		}
		for _, answer := range []string{"", manyBytes(41), manyBytes(256), manyBytes(257), manyBytes(296), manyBytes(impl.MaxBytes + 1)} {
			change(func(s *impl.Slave) { s.Cache[at].Answer = answer })
		}
	}
	for _, many := range []int{5, 6, 256, 260, impl.MaxList, impl.MaxList + 1} {
		l = append(l, slaveWith(impl.Table{}, 0, idsFrom(1, 1, many), 0))
	}
	return append(l, slaveWith(impl.Table{}, 0, []int64{0}, 0), slaveWith(impl.Table{}, impl.MaxTime, []int64{1}, 0), slaveWith(impl.Table{}, impl.MaxTime-3, []int64{1, 2, 3, 4}, 0), slaveWith(impl.Table{}, 0, []int64{2, 1}, 0), slaveWith(impl.Table{}, 0, []int64{2, 2}, 0))
}

func TestSlaveRight(t *testing.T) {
	for _, s := range rightSlaves() {
		if !slaveIsRight(s) || !impl.SlaveRight(s) {
			t.Errorf("SlaveRight(%.500v) = false", s)
		}
	}
	for _, s := range wrongSlaves() {
		if slaveIsRight(s) || impl.SlaveRight(s) {
			t.Errorf("SlaveRight(%.500v) = true", s)
		}
	}
}

func TestSlaveRightByHand(t *testing.T) {
	d := func(id int64) impl.Done { return impl.Done{Id: id, Answer: "x"} }
	for _, c := range []struct {
		s    impl.Slave
		want bool
	}{
		{impl.Slave{}, true}, {impl.Slave{Low: impl.MaxTime}, true}, {impl.Slave{Low: impl.MaxTime + 1}, false}, {impl.Slave{Low: -1}, false},
		{impl.Slave{Runs: impl.MaxTime}, true}, {impl.Slave{Runs: impl.MaxTime + 1}, false}, {impl.Slave{Runs: -1}, false},
		{impl.Slave{Table: impl.Table{Coils: []int64{2}}}, false}, {impl.Slave{Table: impl.Table{Regs: []int64{65536}}}, false}, {impl.Slave{Table: impl.TableNew(24, 12)}, true},
		{impl.Slave{Cache: []impl.Done{d(1)}}, true}, {impl.Slave{Cache: []impl.Done{d(0)}}, false}, {impl.Slave{Low: 1, Cache: []impl.Done{d(1)}}, false}, {impl.Slave{Low: 1, Cache: []impl.Done{d(2)}}, true},
		{impl.Slave{Cache: []impl.Done{d(impl.MaxTime)}}, true}, {impl.Slave{Cache: []impl.Done{d(impl.MaxTime + 1)}}, false},
		{impl.Slave{Cache: []impl.Done{d(1), d(2), d(3), d(4)}}, true}, {impl.Slave{Cache: []impl.Done{d(1), d(2), d(3), d(4), d(5)}}, false},
		{impl.Slave{Cache: []impl.Done{d(1), d(3), d(2)}}, false}, {impl.Slave{Cache: []impl.Done{d(1), d(1)}}, false},
		{impl.Slave{Cache: []impl.Done{{Id: 1}}}, false}, {impl.Slave{Cache: []impl.Done{{Id: 1, Answer: manyBytes(40)}}}, true}, {impl.Slave{Cache: []impl.Done{{Id: 1, Answer: manyBytes(41)}}}, false},
	} {
		if got := impl.SlaveRight(c.s); got != c.want {
			t.Errorf("SlaveRight(%.300v) = %v", c.s, got)
		}
	}
}

// someBodies are questions that get, that set, that are refused, and what is no question.
func someBodies() []string {
	return []string{
		"\x03\x00\x01\x00\x02", "\x01\x00\x00\x00\x08", "\x06\x00\x01\x12\x34", "\x05\x00\x02\x00\x00", "\x0f\x00\x01\x00\x09\x02\xff\x01", "\x10\x00\x02\x00\x02\x04\x00\x07\x00\x08",
		"\x03\x00\x04\x00\x01", "\x06\x00\xff\x12\x34", "\x06\x00\x01\x12", "\x07", "x", "\x80", manyBytes(40), "\x03\x00\x00\x00\x08",
	}
}

// lettersTo are letters of each id that a slave has, of those beside, at and below Low, and above.
func lettersTo(s impl.Slave) []string {
	ids := []int64{1, s.Low - 1, s.Low, s.Low + 1, s.Low + 3, s.Low + 5, s.Low + 9, s.Low + 10, s.Low + 400, impl.MaxTime - 1, impl.MaxTime}
	for _, d := range s.Cache {
		ids = append(ids, d.Id-1, d.Id, d.Id+1)
	}
	slices.Sort(ids)
	var l []string
	for _, id := range slices.Compact(ids) {
		for _, body := range someBodies() {
			if text := letterIs(id, body); text != "" {
				l = append(l, text)
			}
		}
	}
	return l
}

func TestSlaveTake(t *testing.T) {
	told := map[int64]int{}
	for _, s := range rightSlaves() {
		for _, text := range lettersTo(s) {
			out := slaveTakeIs(t, s, text)
			told[out.Code]++
			if out.Code == impl.OK {
				// The same letter once more: either it is kept, or it went at once and is refused.
				slaveTakeIs(t, out.Slave, text)
			}
		}
	}
	for _, s := range wrongSlaves() {
		for _, id := range []int64{1, 10, 12, 13, 19, impl.MaxTime} {
			text := letterIs(id, "\x03\x00\x01\x00\x02")
			slaveIs(t, s, text, impl.SlaveTake(s, text), impl.SlaveOut{Code: impl.ErrForm})
		}
	}
	for _, code := range []int64{impl.OK, impl.ErrState, impl.ErrFull} {
		if told[code] < 100 {
			t.Errorf("code %d is told %d times", code, told[code])
		}
	}
}

func TestSlaveTakeByHand(t *testing.T) {
	const get, set, away = "\x03\x00\x01\x00\x01", "\x06\x00\x01\x12\x34", "\x06\x00\x09\x12\x34"
	table, after := impl.Table{Regs: []int64{7, 8}}, impl.Table{Regs: []int64{7, 4660}}
	d := func(id int64, answer string) impl.Done { return impl.Done{Id: id, Answer: answer} }
	code := func(code int64) impl.SlaveOut { return impl.SlaveOut{Code: code} }
	three := impl.Slave{Table: table, Low: 10, Cache: []impl.Done{d(12, "a"), d(14, "b"), d(16, "c")}, Runs: 5}
	four := impl.Slave{Table: table, Low: 10, Cache: []impl.Done{d(12, "a"), d(14, "b"), d(16, "c"), d(18, "e")}, Runs: 5}
	spent := impl.Slave{Table: table, Low: 10, Cache: four.Cache, Runs: impl.MaxTime}
	last := impl.Slave{Table: table, Low: 10, Runs: impl.MaxTime - 1}
	for _, c := range []struct {
		s    impl.Slave
		text string
		want impl.SlaveOut
	}{
		{impl.Slave{Table: table}, impl.LetterOf(1, get), impl.SlaveOut{Slave: impl.Slave{Table: table, Cache: []impl.Done{d(1, "\x03\x02\x00\x08")}, Runs: 1}, Answer: impl.LetterOf(1, "\x03\x02\x00\x08")}},
		{impl.Slave{Table: table}, impl.LetterOf(1, set), impl.SlaveOut{Slave: impl.Slave{Table: after, Cache: []impl.Done{d(1, set)}, Runs: 1}, Answer: impl.LetterOf(1, set)}},
		{impl.Slave{Table: table}, impl.LetterOf(1, away), impl.SlaveOut{Slave: impl.Slave{Table: table, Cache: []impl.Done{d(1, "\x86\x02")}, Runs: 1}, Answer: impl.LetterOf(1, "\x86\x02")}},
		{impl.Slave{Table: table}, impl.LetterOf(1, "?"), impl.SlaveOut{Slave: impl.Slave{Table: table, Cache: []impl.Done{d(1, "\xbf\x01")}, Runs: 1}, Answer: impl.LetterOf(1, "\xbf\x01")}},
		{impl.Slave{Table: table}, impl.LetterOf(impl.MaxTime, set), impl.SlaveOut{Slave: impl.Slave{Table: after, Cache: []impl.Done{d(impl.MaxTime, set)}, Runs: 1}, Answer: impl.LetterOf(impl.MaxTime, set)}},
		// What is in Cache is told as it is there, whatever the letter asks now.
		{three, impl.LetterOf(14, set), impl.SlaveOut{Slave: three, Answer: impl.LetterOf(14, "b")}},
		{four, impl.LetterOf(12, get), impl.SlaveOut{Slave: four, Answer: impl.LetterOf(12, "a")}},
		{four, impl.LetterOf(18, "?"), impl.SlaveOut{Slave: four, Answer: impl.LetterOf(18, "e")}},
		{spent, impl.LetterOf(16, set), impl.SlaveOut{Slave: spent, Answer: impl.LetterOf(16, "c")}},
		{three, impl.LetterOf(10, set), code(impl.ErrState)}, {three, impl.LetterOf(9, set), code(impl.ErrState)}, {three, impl.LetterOf(1, set), code(impl.ErrState)},
		{spent, impl.LetterOf(10, set), code(impl.ErrState)}, {spent, impl.LetterOf(11, set), code(impl.ErrFull)}, {spent, impl.LetterOf(19, get), code(impl.ErrFull)},
		{last, impl.LetterOf(11, set), impl.SlaveOut{Slave: impl.Slave{Table: after, Low: 10, Cache: []impl.Done{d(11, set)}, Runs: impl.MaxTime}, Answer: impl.LetterOf(11, set)}},
		// Into its place: the first, between, the last one, of three and of four.
		{three, impl.LetterOf(11, set), impl.SlaveOut{Slave: impl.Slave{Table: after, Low: 10, Cache: []impl.Done{d(11, set), d(12, "a"), d(14, "b"), d(16, "c")}, Runs: 6}, Answer: impl.LetterOf(11, set)}},
		{three, impl.LetterOf(15, set), impl.SlaveOut{Slave: impl.Slave{Table: after, Low: 10, Cache: []impl.Done{d(12, "a"), d(14, "b"), d(15, set), d(16, "c")}, Runs: 6}, Answer: impl.LetterOf(15, set)}},
		{three, impl.LetterOf(17, set), impl.SlaveOut{Slave: impl.Slave{Table: after, Low: 10, Cache: []impl.Done{d(12, "a"), d(14, "b"), d(16, "c"), d(17, set)}, Runs: 6}, Answer: impl.LetterOf(17, set)}},
		{four, impl.LetterOf(11, set), impl.SlaveOut{Slave: impl.Slave{Table: after, Low: 11, Cache: four.Cache, Runs: 6}, Answer: impl.LetterOf(11, set)}},
		{four, impl.LetterOf(13, set), impl.SlaveOut{Slave: impl.Slave{Table: after, Low: 12, Cache: []impl.Done{d(13, set), d(14, "b"), d(16, "c"), d(18, "e")}, Runs: 6}, Answer: impl.LetterOf(13, set)}},
		{four, impl.LetterOf(19, set), impl.SlaveOut{Slave: impl.Slave{Table: after, Low: 12, Cache: []impl.Done{d(14, "b"), d(16, "c"), d(18, "e"), d(19, set)}, Runs: 6}, Answer: impl.LetterOf(19, set)}},
		{four, "", code(impl.ErrSyntax)}, {four, "x", code(impl.ErrSyntax)}, {spent, impl.LetterOf(12, "a") + "x", code(impl.ErrSyntax)}, {spent, impl.Seal(impl.PutNum(12) + "\x00"), code(impl.ErrSyntax)},
		{impl.Slave{Low: -1}, impl.LetterOf(12, "a"), code(impl.ErrForm)}, {impl.Slave{Table: impl.Table{Coils: []int64{2}}}, impl.LetterOf(12, "a"), code(impl.ErrForm)},
	} {
		slaveIs(t, c.s, c.text, impl.SlaveTake(c.s, c.text), c.want)
	}
}

// The same letter twice and thrice, and late: it counts the questions that came, not the letters.
func TestSameLetterAgain(t *testing.T) {
	s := impl.Slave{Table: impl.TableNew(0, 2)}
	letterOf := func(id int64) string {
		return impl.LetterOf(id, impl.AskBytes(impl.Ask{Fc: impl.FcReg, At: id % 2, Many: 1, Values: []int64{id}}))
	}
	take := func(id int64, code int64, runs int64, regs ...int64) {
		t.Helper()
		out := slaveTakeIs(t, s, letterOf(id))
		if out.Code != code {
			t.Fatalf("the letter of %d is told %v", id, out)
		}
		if code == impl.OK {
			s = out.Slave
		}
		if s.Runs != runs || !sameNums(s.Table.Regs, regs) {
			t.Fatalf("behind the letter of %d it is %v", id, s)
		}
	}
	take(1, impl.OK, 1, 0, 1)
	take(1, impl.OK, 1, 0, 1)
	take(3, impl.OK, 2, 0, 3)
	take(1, impl.OK, 2, 0, 3)
	take(2, impl.OK, 3, 2, 3)
	take(5, impl.OK, 4, 2, 5)
	take(3, impl.OK, 4, 2, 5)
	take(1, impl.OK, 4, 2, 5)
	take(6, impl.OK, 5, 6, 5)
	// 1 went now: it is not done anew. 4 never came, and is above Low.
	take(1, impl.ErrState, 5, 6, 5)
	take(2, impl.OK, 5, 6, 5)
	take(4, impl.OK, 6, 4, 5)
	take(2, impl.ErrState, 6, 4, 5)
	take(4, impl.OK, 6, 4, 5)
	take(9, impl.OK, 7, 4, 9)
	take(3, impl.ErrState, 7, 4, 9)
	take(8, impl.OK, 8, 8, 9)
	take(9, impl.OK, 8, 8, 9)
	take(4, impl.ErrState, 8, 8, 9)
}

// An answer is taken once: it is ErrNone that the next one of that id is told, at once and later, be it the same or not.
func TestAnswerIsTakenOnce(t *testing.T) {
	for _, given := range rightMasters() {
		for _, w := range given.Open {
			out := takeIs(t, given, letterIs(w.Id, "yes"))
			if last := len(out.Master.Done) - 1; out.Code != impl.OK || out.Id != w.Id || out.Master.Done[last] != (impl.Done{Id: w.Id, Answer: "yes"}) || last != len(given.Done) {
				t.Fatalf("the answer to %d of %v is told %v", w.Id, given, out)
			}
			m := out.Master
			for range 10 {
				for _, body := range []string{"yes", "no", w.Text} {
					masterIs(t, "MasterTake", m, body, impl.MasterTake(m, letterIs(w.Id, body)), impl.MasterOut{Code: impl.ErrNone})
				}
				m = tickIs(t, m).Master
			}
		}
	}
}

// What is open comes to its end, just when its three letters have had their three ticks each.
func TestWhatIsOpenEnds(t *testing.T) {
	for _, given := range rightMasters() {
		m := given
		sent := map[string]int{}
		for tick := range int64(10) {
			for _, w := range given.Open {
				isOpen := slices.ContainsFunc(m.Open, func(o impl.Wait) bool { return o.Id == w.Id })
				isOver := slices.Contains(m.Done, impl.Done{Id: w.Id})
				ends := (3-w.Tries)*3 + 3 - w.Age
				if isOpen != (tick < ends) || isOver != (tick >= ends) {
					t.Fatalf("%v of %v is open %v and over %v behind %d ticks, and ends behind %d", w, given, isOpen, isOver, tick, ends)
				}
			}
			out := tickIs(t, m)
			for _, text := range out.Sent {
				sent[text]++
			}
			m = out.Master
		}
		for _, w := range given.Open {
			if many := sent[letterIs(w.Id, w.Text)]; int64(many) != 3-w.Tries {
				t.Fatalf("%v of %v is sent %d times more", w, given, many)
			}
		}
		if len(m.Open) != 0 || len(m.Done) != len(given.Open)+len(given.Done) {
			t.Fatalf("in the end %v is %v", given, m)
		}
	}
}

// exchange is a master and a slave, and all that was ever sent between them: any of it may come again, and late.
type exchange struct {
	t       *testing.T
	source  *rand.Rand
	master  impl.Master
	slave   impl.Slave
	asks    map[int64]string
	ran     map[int64]string // what was answered when the question was done
	ended   map[int64]string
	letters []string
	answers []string
}

func newExchange(t *testing.T, seed int64) *exchange {
	x := &exchange{t: t, source: rand.New(rand.NewSource(seed)), asks: map[int64]string{}, ran: map[int64]string{}, ended: map[int64]string{}}
	first := []int64{1, 2, 60, 8000, impl.MaxTime - 60}[seed%5]
	x.master = impl.Master{Next: first}
	x.slave = impl.Slave{Table: impl.TableNew(4, 3), Low: first - 1, Runs: x.source.Int63n(9)}
	return x
}

// someAsk sets, or gets, a few cells, so that what is got hangs on what was set ahead of it; or it is refused.
func (x *exchange) someAsk() string {
	at, n := x.source.Int63n(4), x.source.Int63n(65536)
	switch x.source.Intn(6) {
	case 0, 1:
		return askBytesOf(impl.Ask{Fc: impl.FcReg, At: at, Many: 1, Values: []int64{n}})
	case 2:
		return askBytesOf(impl.Ask{Fc: impl.FcCoil, At: at, Many: 1, Values: []int64{n % 2}})
	case 3:
		return askBytesOf(impl.Ask{Fc: impl.FcCoils, At: 0, Many: 4})
	case 4:
		return askBytesOf(impl.Ask{Fc: impl.FcRegs, At: 0, Many: 3})
	}
	return manyBytes(1 + x.source.Intn(40))
}

func (x *exchange) issue() {
	ask := x.someAsk()
	out := issueIs(x.t, x.master, ask)
	if out.Code == impl.ErrFull {
		return
	}
	if x.asks[out.Id] != "" || out.Id != x.master.Next {
		x.t.Fatalf("the id %d is handed out anew: %v", out.Id, x.master)
	}
	x.asks[out.Id], x.letters, x.master = ask, append(x.letters, out.Sent...), out.Master
}

func (x *exchange) tick() {
	out := tickIs(x.t, x.master)
	before := len(x.master.Done)
	for _, text := range out.Sent {
		if !slices.Contains(x.letters, text) {
			x.t.Fatalf("%q is sent, which was not issued", text)
		}
	}
	x.letters, x.master = append(x.letters, out.Sent...), out.Master
	for _, d := range x.master.Done[before:] {
		x.end(d, "")
	}
}

// end looks at what comes to its end, just once, with that answer.
func (x *exchange) end(d impl.Done, answer string) {
	if _, isTwice := x.ended[d.Id]; isTwice || d.Answer != answer || x.asks[d.Id] == "" {
		x.t.Fatalf("%v comes to its end with %q, the first time with %q", d, answer, x.ended[d.Id])
	}
	x.ended[d.Id] = d.Answer
}

// come brings a letter to the slave.
func (x *exchange) come(text string) {
	id, body, _ := letterIn(text)
	out := slaveTakeIs(x.t, x.slave, text)
	once, hasRun := x.ran[id]
	switch {
	case out.Code == impl.ErrState && id <= x.slave.Low:
		return
	case out.Code != impl.OK:
		x.t.Fatalf("the letter of %d is told %v by %v", id, out, x.slave)
	case hasRun:
		if out.Slave.Runs != x.slave.Runs || !sameTable(out.Slave.Table, x.slave.Table) {
			x.t.Fatalf("the question %d is done twice: %v becomes %v", id, x.slave, out)
		}
	default:
		run := served(x.slave.Table, body)
		once = run.Answer
		x.ran[id] = once
		if out.Slave.Runs != x.slave.Runs+1 || !sameTable(out.Slave.Table, run.Table) {
			x.t.Fatalf("the question %d is not done once: %v becomes %v", id, x.slave, out)
		}
	}
	if out.Answer != letterIs(id, once) {
		x.t.Fatalf("the question %d is answered by %q, and was by %q when it was done", id, out.Answer, once)
	}
	x.slave, x.answers = out.Slave, append(x.answers, out.Answer)
}

// back brings an answer to the master, and at times takes away what is done.
func (x *exchange) back(text string) {
	id, _, _ := letterIn(text)
	_, hasEnded := x.ended[id]
	out := takeIs(x.t, x.master, text)
	if hasEnded {
		masterIs(x.t, "MasterTake", x.master, text, out, impl.MasterOut{Code: impl.ErrNone})
		return
	}
	if out.Code != impl.OK {
		x.t.Fatalf("the answer to %d is told %v by %v", id, out, x.master)
	}
	x.master = out.Master
	x.end(x.master.Done[len(x.master.Done)-1], x.ran[id])
}

// some is one of these texts, as a rule one of the last ones.
func (x *exchange) some(texts []string) string {
	near := min(len(texts), 6)
	if x.source.Intn(3) == 0 {
		near = len(texts)
	}
	return texts[len(texts)-1-x.source.Intn(near)]
}

func (x *exchange) step() {
	switch what := x.source.Intn(10); {
	case what < 2:
		x.issue()
	case what < 4:
		x.tick()
	case what < 8 && len(x.letters) > 0:
		x.come(x.some(x.letters))
	case len(x.answers) > 0:
		x.back(x.some(x.answers))
	}
	if x.source.Intn(4) == 0 && len(x.master.Done) > 0 {
		x.master = bareMaster(x.master)
		x.master.Done = x.master.Done[1:]
	}
}

// finish lets ticks alone go by: what is still open comes to its end.
func (x *exchange) finish() {
	for range 9 {
		x.tick()
	}
	if len(x.master.Open) > 0 || len(x.ended) != len(x.asks) {
		x.t.Fatalf("of %d questions %d came to their end: %v", len(x.asks), len(x.ended), x.master)
	}
}

// Whatever gets lost (it just is not brought), doubled and late, at random, but always the same.
func TestDoneOnceAtMost(t *testing.T) {
	var asked, ran, answered, late int
	for seed := range int64(400) {
		x := newExchange(t, seed)
		for range 400 {
			x.step()
		}
		x.finish()
		asked, ran = asked+len(x.asks), ran+len(x.ran)
		for _, answer := range x.ended {
			if answer != "" {
				answered++
			}
		}
		for range 40 {
			x.step()
		}
		late += len(x.answers)
	}
	// There are questions of all kinds: never done, done and not answered, answered more than once.
	if asked < 4000 || asked-ran < 100 || ran-answered < 100 || answered < 1000 || late < 2*ran {
		t.Errorf("of %d questions %d are done and %d answered, by %d letters", asked, ran, answered, late)
	}
}

// A letter that comes behind many others, and was never done, may be refused, but is not done twice: each way in which
// seven letters may come twice each.
func TestEachOrderOfLetters(t *testing.T) {
	source := rand.New(rand.NewSource(14))
	for range 3000 {
		order := append(source.Perm(7), source.Perm(7)...)
		source.Shuffle(len(order), func(a, b int) { order[a], order[b] = order[b], order[a] })
		s := impl.Slave{Table: impl.TableNew(0, 7)}
		var runs [8]int64
		for _, n := range order {
			id := int64(n + 1)
			text := letterIs(id, askBytesOf(impl.Ask{Fc: impl.FcReg, At: int64(n), Many: 1, Values: []int64{1 + source.Int63n(9)}}))
			out := slaveTakeIs(t, s, text)
			if out.Code == impl.OK {
				runs[id] += out.Slave.Runs - s.Runs
				s = out.Slave
			}
			if runs[id] > 1 {
				t.Fatalf("in the order %v the question %d is done %d times", order, id, runs[id])
			}
		}
	}
}

// laidMaster is the same master, its texts in memory of their own, and something behind the end of each list.
func laidMaster(given impl.Master) impl.Master {
	m := impl.Master{Next: given.Next}
	for _, w := range given.Open {
		w.Text = strings.Clone(w.Text)
		m.Open = append(m.Open, w)
	}
	for _, d := range given.Done {
		m.Done = append(m.Done, impl.Done{Id: d.Id, Answer: strings.Clone(d.Answer)})
	}
	m.Open = append(m.Open, impl.Wait{Id: 99}, impl.Wait{Id: 99})[:len(given.Open)]
	m.Done = append(m.Done, impl.Done{Id: 99}, impl.Done{Id: 99})[:len(given.Done)]
	return m
}

func isLaidMaster(m impl.Master, given impl.Master) bool {
	return sameMaster(m, given) && m.Open[:len(m.Open)+1][len(m.Open)].Id == 99 && m.Done[:len(m.Done)+1][len(m.Done)].Id == 99
}

func textsOfMaster(m impl.Master) []string {
	var l []string
	for _, w := range m.Open {
		l = append(l, w.Text)
	}
	for _, d := range m.Done {
		l = append(l, d.Answer)
	}
	return l
}

func spoilDones(l []impl.Done) {
	l = l[:cap(l)]
	for i := range l {
		l[i] = impl.Done{Id: 77, Answer: "spoilt"}
	}
}

func spoilTexts(l []string) {
	l = l[:cap(l)]
	for i := range l {
		l[i] = "spoilt"
	}
}

func spoilWaits(l []impl.Wait) {
	l = l[:cap(l)]
	for i := range l {
		l[i] = impl.Wait{Id: 77}
	}
}

// noTextShared looks whether a text of an answer is a piece of one that was handed in, or two of an answer are of one
// memory; texts of one byte may be, as there is but one of each.
func noTextShared(t *testing.T, answer []string, handedIn []string) {
	t.Helper()
	for i, text := range answer {
		for _, in := range handedIn {
			if sharesText(text, in) {
				t.Fatalf("%q of an answer is a piece of %q, which is handed in", text, in)
			}
		}
		for _, other := range answer[i+1:] {
			if len(text) > 1 && len(other) > 1 && sharesText(text, other) {
				t.Fatalf("%q and %q of an answer share memory", text, other)
			}
		}
	}
}

// masterLeft looks at one call: what is handed in stays as it is, what is answered has memory of its own.
func masterLeft(t *testing.T, given impl.Master, text string, call func(m impl.Master, text string) impl.MasterOut) {
	t.Helper()
	m, own := laidMaster(given), strings.Clone(text)
	out, other := call(m, own), call(m, own)
	want := bareMasterOut(other)
	noTextShared(t, append(textsOfMaster(out.Master), out.Sent...), append(textsOfMaster(m), own))
	if !isLaidMaster(m, given) {
		t.Fatalf("%v is changed to %v", given, m)
	}
	spoilWaits(out.Master.Open)
	spoilDones(out.Master.Done)
	spoilTexts(out.Sent)
	if !isLaidMaster(m, given) || own != text || !sameMasterOut(other, want) {
		t.Fatalf("an answer of %v and %q shares memory", given, text)
	}
}

func TestMasterMemory(t *testing.T) {
	for _, m := range append(rightMasters(), wrongMasters()...) {
		masterLeft(t, m, "an ask", impl.Issue)
		masterLeft(t, m, "", func(m impl.Master, text string) impl.MasterOut { return impl.MasterTick(m) })
		for _, text := range lettersFor(m) {
			masterLeft(t, m, text, impl.MasterTake)
		}
	}
}

func TestSlaveMemory(t *testing.T) {
	for _, given := range rightSlaves() {
		for _, text := range lettersTo(given) {
			s, own := bareSlave(given), strings.Clone(text)
			for i, d := range given.Cache {
				s.Cache[i].Answer = strings.Clone(d.Answer)
			}
			s.Cache = append(s.Cache, impl.Done{Id: 99}, impl.Done{Id: 99})[:len(given.Cache)]
			s.Table = impl.Table{Coils: append(s.Table.Coils, 9)[:len(s.Table.Coils)], Regs: append(s.Table.Regs, 9)[:len(s.Table.Regs)]}
			isLeft := func() bool {
				coils, regs := len(s.Table.Coils), len(s.Table.Regs)
				behind := s.Table.Coils[:coils+1][coils] == 9 && s.Table.Regs[:regs+1][regs] == 9 && s.Cache[:len(s.Cache)+1][len(s.Cache)].Id == 99
				return sameSlave(s, given) && behind
			}
			out, other := impl.SlaveTake(s, own), impl.SlaveTake(s, own)
			want := other
			want.Slave = bareSlave(other.Slave)
			texts, in := []string{out.Answer}, []string{own}
			for _, d := range out.Slave.Cache {
				texts = append(texts, d.Answer)
			}
			for _, d := range s.Cache {
				in = append(in, d.Answer)
			}
			noTextShared(t, texts, in)
			if !isLeft() {
				t.Fatalf("%v is changed to %v", given, s)
			}
			spoilDones(out.Slave.Cache)
			regs := append([]int64{}, out.Slave.Table.Regs...)
			spoil(out.Slave.Table.Coils)
			if !sameNums(out.Slave.Table.Regs, regs) {
				t.Fatal("the lists of one answer share memory")
			}
			spoil(out.Slave.Table.Regs)
			if !isLeft() || !sameSlaveOut(other, want) {
				t.Fatalf("an answer of %v and %q shares memory", given, text)
			}
		}
	}
}

func FuzzTrans(f *testing.F) {
	for _, body := range someBodies() {
		for id := byte(1); id < 9; id++ {
			f.Add(string([]byte{9, 2, 1, 1, 0, 4, 2, 1, 2, 2, 5}), string([]byte{1, 5, 3, 2, 4, 6}), int64(id), body, letterIs(int64(id), body))
		}
	}
	f.Fuzz(func(t *testing.T, nums string, cache string, id int64, body string, text string) {
		next := numberFrom(nums)
		m := impl.Master{Next: next(30)}
		for range min(next(4), 4) {
			m.Open = append(m.Open, impl.Wait{Id: next(30), Tries: next(4), Age: next(3), Text: body})
		}
		for range min(next(20), 20) {
			m.Done = append(m.Done, impl.Done{Id: next(30), Answer: body[:len(body)/2]})
		}
		next = numberFrom(cache)
		s := impl.Slave{Table: mixedTable(10, 4), Low: next(20), Runs: next(9)}
		for range min(next(5), 5) {
			s.Cache = append(s.Cache, impl.Done{Id: next(30), Answer: body})
		}
		if impl.MasterRight(m) != masterIsRight(m) || impl.SlaveRight(s) != slaveIsRight(s) {
			t.Fatalf("MasterRight(%v) = %v, SlaveRight(%v) = %v", m, impl.MasterRight(m), s, impl.SlaveRight(s))
		}
		letter := impl.LetterOf(id, body)
		if letter != letterIs(id, body) {
			t.Fatalf("LetterOf(%d, %q) = %q", id, body, letter)
		}
		keptM, keptS := bareMaster(m), bareSlave(s)
		issueIs(t, m, body)
		tickIs(t, m)
		for _, came := range []string{text, letter, sealedText(text), letterBytes(id, text)} {
			takeIs(t, m, came)
			slaveTakeIs(t, s, came)
		}
		if !sameMaster(m, keptM) || !sameSlave(s, keptS) {
			t.Fatalf("%v is changed to %v, or %v to %v", keptM, m, keptS, s)
		}
	})
}
