package tests

import (
	"math"
	"math/rand"
	"reflect"
	"slices"
	"strings"
	"testing"

	"loop.example/g00556/impl"
)

// segmentIsRight is the document's words on a right Segment.
func segmentIsRight(s impl.Segment) bool {
	if !within(int64(len(s.Stations)), 1, 4) || len(s.Up) != len(s.Stations) || len(s.Got) > 20 {
		return false
	}
	for i, station := range s.Stations {
		if !stationIsRight(station) || i > 0 && station.Addr <= s.Stations[i-1].Addr {
			return false
		}
	}
	for _, n := range s.Got {
		if !within(n.From, 1, 8) || !within(n.To, 1, 8) || !within(int64(len(n.Body)), 1, 20) {
			return false
		}
	}
	return true
}

// ownSegment is the same segment in memory of its own, an empty list and none alike.
func ownSegment(s impl.Segment) impl.Segment {
	var own impl.Segment
	for _, station := range s.Stations {
		own.Stations = append(own.Stations, ownStation(station))
	}
	own.Up = append(own.Up, s.Up...)
	own.Got = append(own.Got, s.Got...)
	return own
}

func sameSegment(a impl.Segment, b impl.Segment) bool {
	return reflect.DeepEqual(ownSegment(a), ownSegment(b))
}

func sameSegmentOut(a impl.SegmentOut, b impl.SegmentOut) bool {
	return a.Code == b.Code && sameSegment(a.Segment, b.Segment) && slices.EqualFunc(a.Says, b.Says, sameSay)
}

// ownSegmentOut is the same answer in memory of its own.
func ownSegmentOut(out impl.SegmentOut) impl.SegmentOut {
	own := impl.SegmentOut{Segment: ownSegment(out.Segment), Code: out.Code}
	for _, m := range out.Says {
		m.Words = append([]int64(nil), m.Words...)
		own.Says = append(own.Says, m)
	}
	return own
}

// segIs looks at one answer, and whether a right segment stays right.
func segIs(t *testing.T, what string, s impl.Segment, got impl.SegmentOut, want impl.SegmentOut) impl.SegmentOut {
	t.Helper()
	if !sameSegmentOut(got, want) {
		t.Fatalf("%s of %.900v\n got %.900v\nwant %.900v", what, s, got, want)
	}
	if got.Code == impl.OK && !segmentIsRight(got.Segment) {
		t.Fatalf("%s of %.900v makes a segment that is not right: %.900v", what, s, got)
	}
	for _, m := range got.Says {
		if !sayIsRight(m) {
			t.Fatalf("%s of %.900v says what is not right: %.200v", what, s, m)
		}
	}
	return got
}

func segCode(code int64) impl.SegmentOut {
	return impl.SegmentOut{Code: code}
}

// placeIn looks for an address as all calls do: where it is, or the code that is told.
func placeIn(s impl.Segment, addr int64) (int, int64) {
	if !segmentIsRight(s) {
		return 0, 1
	}
	at := slices.IndexFunc(s.Stations, func(station impl.Station) bool { return station.Addr == addr })
	if at < 0 {
		return 0, 6
	}
	return at, 0
}

// segTurned is what SegTurn must answer, in the document's words.
func segTurned(given impl.Segment, addr int64, lost int64) impl.SegmentOut {
	at, code := placeIn(given, addr)
	switch {
	case code != 0:
		return segCode(code)
	case !within(lost, 0, 15):
		return segCode(1)
	case !given.Up[at]:
		return segCode(10)
	}
	own := turned(given.Stations[at])
	if own.Code != 0 {
		return segCode(own.Code)
	}
	out := impl.SegmentOut{Segment: ownSegment(given), Says: own.Says}
	stations := out.Segment.Stations
	stations[at] = own.Station
	for _, m := range own.Says {
		for hearer := range stations {
			if !hearsFrom(given, at, hearer, lost) {
				continue
			}
			heard := hears(stations[hearer], m)
			stations[hearer] = heard.Station
			if m.Kind == 5 && m.To == heard.Station.Addr {
				out.Segment.Got = append(out.Segment.Got, impl.Note{From: m.From, To: m.To, Body: m.Body})
			}
			for _, answer := range heard.Says {
				out.Says = append(out.Says, answer)
				for other := range stations {
					if hearsFrom(given, hearer, other, lost) {
						stations[other] = hears(stations[other], answer).Station
					}
				}
			}
		}
	}
	out.Segment.Got = out.Segment.Got[max(0, len(out.Segment.Got)-20):]
	return out
}

func hearsFrom(s impl.Segment, speaker int, hearer int, lost int64) bool {
	return hearer != speaker && s.Up[hearer] && lost>>hearer&1 == 0
}

// segRounded is what SegRound must answer, in the document's words.
func segRounded(given impl.Segment, rounds int64) impl.SegmentOut {
	if !segmentIsRight(given) || !within(rounds, 0, 60) {
		return segCode(1)
	}
	s := given
	for range rounds {
		for at := range given.Stations {
			if out := segTurned(s, given.Stations[at].Addr, 0); out.Code == 0 {
				s = out.Segment
			}
		}
	}
	return impl.SegmentOut{Segment: s}
}

func segDowned(given impl.Segment, addr int64) impl.SegmentOut {
	at, code := placeIn(given, addr)
	if code == 0 && !given.Up[at] {
		code = 10
	}
	if code != 0 {
		return segCode(code)
	}
	s := ownSegment(given)
	s.Up[at] = false
	return impl.SegmentOut{Segment: s}
}

func segUpped(given impl.Segment, addr int64) impl.SegmentOut {
	at, code := placeIn(given, addr)
	switch {
	case code != 0:
		return segCode(code)
	case given.Up[at]:
		return segCode(10)
	case given.Stations[at].Boot == 1000000:
		return segCode(9)
	}
	s := ownSegment(given)
	s.Stations[at] = impl.Station{Addr: addr, Boot: given.Stations[at].Boot + 1}
	s.Up[at] = true
	return impl.SegmentOut{Segment: s}
}

func segQueued(given impl.Segment, addr int64, body string) impl.SegmentOut {
	if len(body) > 8000 {
		return segCode(2)
	}
	at, code := placeIn(given, addr)
	switch {
	case code != 0:
		return segCode(code)
	case !given.Up[at]:
		return segCode(10)
	case !within(int64(len(body)), 1, 20):
		return segCode(1)
	case len(given.Stations[at].Out) == 3:
		return segCode(9)
	}
	s := ownSegment(given)
	s.Stations[at].Out = append(s.Stations[at].Out, body)
	return impl.SegmentOut{Segment: s}
}

func segPublished(given impl.Segment, addr int64, words []int64) impl.SegmentOut {
	if len(words) > 400 {
		return segCode(2)
	}
	at, code := placeIn(given, addr)
	switch {
	case code != 0:
		return segCode(code)
	case !given.Up[at]:
		return segCode(10)
	case !wordsAreRight(words):
		return segCode(1)
	}
	s := ownSegment(given)
	s.Stations[at].Words = words
	return impl.SegmentOut{Segment: s}
}

// holdersIn is what Holders must answer, in the document's words.
func holdersIn(s impl.Segment) []int64 {
	var l []int64
	if segmentIsRight(s) {
		for at, station := range s.Stations {
			if s.Up[at] && station.State == 1 {
				l = append(l, station.Addr)
			}
		}
	}
	return l
}

// segmentOf has stations of these addresses, of each state in turn, all up, with something in each list.
func segmentOf(addrs ...int64) impl.Segment {
	s := impl.Segment{Got: []impl.Note{{From: 1, To: 2, Body: "one"}, {From: 8, To: 1, Body: "two"}}}
	for i, a := range addrs {
		s.Stations = append(s.Stations, stationOf(a, int64(i+1)%3))
		s.Up = append(s.Up, true)
	}
	return s
}

// notesOf are so many notes, each other than the others.
func notesOf(many int) []impl.Note {
	var l []impl.Note
	for i := range many {
		l = append(l, impl.Note{From: int64(i%8) + 1, To: int64(i/3%8) + 1, Body: "note " + string(rune('a'+i))})
	}
	return l
}

// addressSets are all lists of addresses that rise.
func addressSets() [][]int64 {
	return knownLists(0)
}

// edgeNotes are one note with each field at its ends and just outside.
func edgeNotes() []impl.Note {
	var l []impl.Note
	for _, a := range edgeAddresses() {
		l = append(l, impl.Note{From: a, To: 2, Body: "x"}, impl.Note{From: 2, To: a, Body: "x"}, impl.Note{From: a, To: a, Body: "x"})
	}
	for _, body := range edgeBodies() {
		l = append(l, impl.Note{From: 1, To: 8, Body: body})
	}
	return append(l, impl.Note{})
}

// edgeSegments have each list by itself at its shortest, its longest and just outside, and each item right and not right.
func edgeSegments() []impl.Segment {
	l := []impl.Segment{{}, {Up: []bool{true}}, {Got: notesOf(1)}}
	for _, addrs := range append(addressSets(), addressLists()...) {
		if len(addrs) <= 9 {
			l = append(l, segmentOf(addrs...))
		}
	}
	for many := 1; many <= 4; many++ {
		base := segmentOf([]int64{1, 3, 4, 8}[:many]...)
		for ups := range 6 {
			s := base
			s.Up = make([]bool, ups)
			l = append(l, s)
		}
		s := base
		for notes := range 23 {
			s.Got = notesOf(notes)
			l = append(l, s)
		}
		for _, n := range edgeNotes() {
			s.Got = []impl.Note{n}
			l = append(l, s)
			for at := range 3 {
				s.Got = notesOf(3)
				s.Got[at] = n
				l = append(l, s)
			}
		}
	}
	for _, station := range edgeStations() {
		for at := range 3 {
			s := segmentOf(1, 3, 8)
			s.Stations[at] = station
			l = append(l, s)
		}
	}
	return l
}

// someWrongSegments are not right, for one reason each.
func someWrongSegments() []impl.Segment {
	five, none := segmentOf(1, 2, 3, 4, 5), impl.Segment{}
	falls, twice := segmentOf(2, 1), segmentOf(1, 1)
	station, up, fewer, more := segmentOf(1, 2), segmentOf(1, 2), segmentOf(1, 2), segmentOf(1, 2)
	station.Stations[1].Poll = 9
	up.Up, fewer.Up, more.Up = nil, fewer.Up[:1], append(more.Up, true)
	l := []impl.Segment{five, none, falls, twice, station, up, fewer, more}
	for _, n := range []impl.Note{{To: 2, Body: "x"}, {From: 1, Body: "x"}, {From: 9, To: 2, Body: "x"}, {From: 1, To: 9, Body: "x"}, {From: 1, To: 2}, {From: 1, To: 2, Body: manyBytes(21)}} {
		s := segmentOf(1, 2)
		s.Got = []impl.Note{{From: 1, To: 2, Body: "x"}, n}
		l = append(l, s)
	}
	notes := segmentOf(1, 2)
	notes.Got = notesOf(21)
	return append(l, notes)
}

// rightSegments are of one station to four, of all states, with some of them down.
func rightSegments() []impl.Segment {
	var l []impl.Segment
	for _, addrs := range [][]int64{{1}, {8}, {1, 2}, {4, 7}, {1, 2, 3}, {3, 5, 8}, {1, 2, 3, 4}, {5, 6, 7, 8}, {1, 4, 5, 8}} {
		for shift := range int64(3) {
			for downs := range 1 << len(addrs) {
				s := segmentOf(addrs...)
				s.Got = notesOf(20 - int(shift))
				for at, a := range addrs {
					s.Stations[at] = stationOf(a, (int64(at)+shift)%3)
					s.Up[at] = downs>>at&1 == 0
					switch shift {
					case 1:
						s.Stations[at].Out = nil
					case 2:
						s.Stations[at].Out, s.Stations[at].Poll = nil, 8
					}
				}
				l = append(l, s)
			}
		}
	}
	return l
}

// wandered are segments as they come to be by calls: at random, but always the same ones.
func wandered(seed int64, many int) []impl.Segment {
	source := rand.New(rand.NewSource(seed))
	var l []impl.Segment
	for range many {
		s := someSegment(source)
		for range source.Intn(120) {
			if out := someCall(source, s, 4); out.Code == impl.OK {
				s = out.Segment
			}
		}
		l = append(l, s)
	}
	return l
}

// someSegment is a new one of one station to four, of whatever addresses.
func someSegment(source *rand.Rand) impl.Segment {
	var addrs []int64
	for _, a := range source.Perm(8)[:1+source.Intn(4)] {
		addrs = append(addrs, int64(a)+1)
	}
	slices.Sort(addrs)
	return impl.SegmentNew(addrs).Segment
}

// someCall does something to a segment; a turn is lost on some of those who would hear it once in so many times.
func someCall(source *rand.Rand, s impl.Segment, seldom int) impl.SegmentOut {
	addr := s.Stations[source.Intn(len(s.Stations))].Addr
	switch source.Intn(80) {
	case 0:
		return impl.SegDown(s, addr)
	case 1, 2, 3, 4, 5:
		return impl.SegUp(s, addr)
	case 6, 7, 8, 9:
		return impl.SegQueue(s, addr, manyBytes(1+source.Intn(20)))
	case 10:
		return impl.SegPublish(s, addr, listOf(source.Intn(5), source.Int63n(65536)))
	}
	switch source.Intn(2 * seldom) {
	case 0:
		return impl.SegTurn(s, addr, source.Int63n(16))
	case 1:
		return impl.SegTurn(s, addr, 15)
	}
	return impl.SegTurn(s, addr, 0)
}

func TestSegmentConstants(t *testing.T) {
	if impl.MaxStations != 4 {
		t.Errorf("MaxStations is %d", impl.MaxStations)
	}
}

func TestSegmentRight(t *testing.T) {
	right, all := 0, edgeSegments()
	for _, s := range all {
		want := segmentIsRight(s)
		if got := impl.SegmentRight(s); got != want {
			t.Fatalf("SegmentRight(%.900v) = %v", s, got)
		}
		if want {
			right++
		}
	}
	if right < 500 || len(all)-right < 500 {
		t.Errorf("%d of %d are right", right, len(all))
	}
	for _, s := range rightSegments() {
		if !impl.SegmentRight(s) {
			t.Errorf("SegmentRight(%v) is false", s)
		}
	}
	for _, s := range someWrongSegments() {
		if impl.SegmentRight(s) {
			t.Errorf("SegmentRight(%v) is true", s)
		}
	}
	long := segmentOf(1)
	long.Stations, long.Up = make([]impl.Station, impl.MaxList+1), make([]bool, impl.MaxList+1)
	if impl.SegmentRight(long) {
		t.Error("a segment of very many stations is right")
	}
}

func TestSegmentNew(t *testing.T) {
	for _, addrs := range append(addressSets(), addressLists()...) {
		want := segCode(impl.ErrForm)
		rise := true
		for i, a := range addrs {
			rise = rise && within(a, 1, 8) && (i == 0 || a > addrs[i-1])
		}
		switch {
		case len(addrs) > 400:
			want.Code = impl.ErrSize
		case rise && within(int64(len(addrs)), 1, 4):
			want.Code = impl.OK
			for _, a := range addrs {
				want.Segment.Stations = append(want.Segment.Stations, impl.Station{Addr: a})
				want.Segment.Up = append(want.Segment.Up, true)
			}
		}
		segIs(t, "SegmentNew", impl.Segment{}, impl.SegmentNew(addrs), want)
	}
	for _, c := range []struct {
		addrs []int64
		code  int64
	}{
		{nil, impl.ErrForm}, {[]int64{}, impl.ErrForm}, {[]int64{1}, impl.OK}, {[]int64{8}, impl.OK}, {[]int64{1, 3, 5, 8}, impl.OK},
		{[]int64{1, 2, 3, 4, 5}, impl.ErrForm}, {[]int64{1, 1}, impl.ErrForm}, {[]int64{1, 3, 2}, impl.ErrForm}, {[]int64{0}, impl.ErrForm}, {[]int64{9}, impl.ErrForm},
		{[]int64{1, 9}, impl.ErrForm}, {[]int64{0, 1}, impl.ErrForm}, {[]int64{-1, 1}, impl.ErrForm}, {listOf(impl.MaxList, 1), impl.ErrForm}, {listOf(impl.MaxList+1, 1), impl.ErrSize},
	} {
		if got := impl.SegmentNew(c.addrs); got.Code != c.code || len(got.Segment.Stations) != len(got.Segment.Up) {
			t.Errorf("SegmentNew(%.200v) = %v, want the code %d", c.addrs, got, c.code)
		}
	}
}

// segCall is one of the calls that take an address, with its other argument bound.
type segCall struct {
	what string
	call func(s impl.Segment, addr int64) impl.SegmentOut
	want func(s impl.Segment, addr int64) impl.SegmentOut
}

func turnCall(lost int64) segCall {
	return segCall{"SegTurn",
		func(s impl.Segment, addr int64) impl.SegmentOut { return impl.SegTurn(s, addr, lost) },
		func(s impl.Segment, addr int64) impl.SegmentOut { return segTurned(s, addr, lost) }}
}

func queueCall(body string) segCall {
	return segCall{"SegQueue",
		func(s impl.Segment, addr int64) impl.SegmentOut { return impl.SegQueue(s, addr, body) },
		func(s impl.Segment, addr int64) impl.SegmentOut { return segQueued(s, addr, body) }}
}

func publishCall(words []int64) segCall {
	return segCall{"SegPublish",
		func(s impl.Segment, addr int64) impl.SegmentOut { return impl.SegPublish(s, addr, words) },
		func(s impl.Segment, addr int64) impl.SegmentOut { return segPublished(s, addr, words) }}
}

func edgeLosts() []int64 {
	return []int64{math.MinInt64, -16, -1, 0, 1, 2, 4, 8, 15, 16, 17, 31, 1 << 32, math.MaxInt64}
}

// segCalls are all calls that take an address, with arguments that are right and that are not.
func segCalls() []segCall {
	l := []segCall{{"SegDown", impl.SegDown, segDowned}, {"SegUp", impl.SegUp, segUpped}}
	for _, lost := range edgeLosts() {
		l = append(l, turnCall(lost))
	}
	for _, body := range edgeBodies() {
		l = append(l, queueCall(body))
	}
	for _, words := range edgeWords() {
		l = append(l, publishCall(words))
	}
	return l
}

// All calls, of all that is right and that is not, against the document's words.
func TestSegCalls(t *testing.T) {
	segments := append(append(rightSegments(), someWrongSegments()...), wandered(1, 40)...)
	for _, base := range segments[:20] {
		full := ownSegment(base)
		full.Stations[0].Out = []string{"x", "y", "z"}
		segments = append(segments, full)
	}
	codes := map[string]map[int64]int{}
	for _, c := range segCalls() {
		if codes[c.what] == nil {
			codes[c.what] = map[int64]int{}
		}
		for _, s := range segments {
			for _, addr := range append(edgeAddresses(), 3, 4, 5, 6) {
				codes[c.what][segIs(t, c.what, s, c.call(s, addr), c.want(s, addr)).Code]++
			}
		}
	}
	for what, want := range map[string][]int64{
		"SegTurn": {0, 1, 6, 10}, "SegDown": {0, 1, 6, 10}, "SegUp": {0, 1, 6, 10},
		"SegQueue": {0, 1, 2, 6, 9, 10}, "SegPublish": {0, 1, 2, 6, 10},
	} {
		for _, code := range want {
			if codes[what][code] < 10 {
				t.Errorf("%s told the code %d just %d times", what, code, codes[what][code])
			}
		}
	}
}

// Which fault is told first, pair by pair: 3 is no address there, 2 is down, 1 is up.
func TestSegFaultsInOrder(t *testing.T) {
	right := segmentOf(1, 2)
	right.Up[1] = false
	wrong := ownSegment(right)
	wrong.Got = notesOf(21)
	full := ownSegment(right)
	for at := range full.Stations {
		full.Stations[at].Boot, full.Stations[at].Top.Gen, full.Stations[at].Out = impl.MaxTime, impl.MaxTime, []string{"x", "y", "z"}
	}
	long := listOf(impl.MaxList+1, 1)
	for i, c := range []struct {
		got  impl.SegmentOut
		code int64
	}{
		{impl.SegTurn(wrong, 3, 16), impl.ErrForm}, {impl.SegTurn(wrong, 3, 0), impl.ErrForm}, {impl.SegTurn(wrong, 2, 0), impl.ErrForm},
		{impl.SegTurn(right, 3, 16), impl.ErrNone}, {impl.SegTurn(right, 3, -1), impl.ErrNone}, {impl.SegTurn(right, 3, 0), impl.ErrNone},
		{impl.SegTurn(right, 2, 16), impl.ErrForm}, {impl.SegTurn(right, 2, -1), impl.ErrForm}, {impl.SegTurn(right, 2, 15), impl.ErrState},
		{impl.SegTurn(full, 1, 16), impl.ErrForm}, {impl.SegTurn(full, 2, 0), impl.ErrState}, {impl.SegTurn(full, 1, 0), impl.ErrFull},
		{impl.SegRound(wrong, 61), impl.ErrForm}, {impl.SegRound(wrong, 0), impl.ErrForm}, {impl.SegRound(right, 61), impl.ErrForm}, {impl.SegRound(right, -1), impl.ErrForm},
		{impl.SegDown(wrong, 3), impl.ErrForm}, {impl.SegDown(wrong, 2), impl.ErrForm}, {impl.SegDown(right, 3), impl.ErrNone}, {impl.SegDown(right, 2), impl.ErrState}, {impl.SegDown(full, 1), impl.OK},
		{impl.SegUp(wrong, 3), impl.ErrForm}, {impl.SegUp(wrong, 1), impl.ErrForm}, {impl.SegUp(right, 3), impl.ErrNone}, {impl.SegUp(right, 1), impl.ErrState},
		{impl.SegUp(full, 3), impl.ErrNone}, {impl.SegUp(full, 1), impl.ErrState}, {impl.SegUp(full, 2), impl.ErrFull}, {impl.SegUp(right, 2), impl.OK},
		{impl.SegQueue(wrong, 3, manyBytes(8001)), impl.ErrSize}, {impl.SegQueue(right, 3, manyBytes(8001)), impl.ErrSize}, {impl.SegQueue(right, 1, manyBytes(8001)), impl.ErrSize},
		{impl.SegQueue(wrong, 3, manyBytes(8000)), impl.ErrForm}, {impl.SegQueue(right, 3, manyBytes(8000)), impl.ErrNone}, {impl.SegQueue(right, 3, ""), impl.ErrNone},
		{impl.SegQueue(right, 2, ""), impl.ErrState}, {impl.SegQueue(full, 2, "x"), impl.ErrState}, {impl.SegQueue(right, 2, manyBytes(8001)), impl.ErrSize},
		{impl.SegQueue(full, 1, ""), impl.ErrForm}, {impl.SegQueue(full, 1, manyBytes(21)), impl.ErrForm}, {impl.SegQueue(full, 1, "x"), impl.ErrFull}, {impl.SegQueue(right, 1, "x"), impl.OK},
		{impl.SegPublish(wrong, 3, long), impl.ErrSize}, {impl.SegPublish(right, 3, long), impl.ErrSize}, {impl.SegPublish(right, 2, long), impl.ErrSize}, {impl.SegPublish(right, 1, long), impl.ErrSize},
		{impl.SegPublish(wrong, 3, long[1:]), impl.ErrForm}, {impl.SegPublish(right, 3, long[1:]), impl.ErrNone}, {impl.SegPublish(right, 3, []int64{-1}), impl.ErrNone},
		{impl.SegPublish(right, 2, []int64{-1}), impl.ErrState}, {impl.SegPublish(right, 2, []int64{1}), impl.ErrState}, {impl.SegPublish(right, 1, []int64{-1}), impl.ErrForm},
		{impl.SegPublish(right, 1, []int64{65536}), impl.ErrForm}, {impl.SegPublish(right, 1, listOf(5, 1)), impl.ErrForm}, {impl.SegPublish(full, 1, []int64{65535}), impl.OK},
	} {
		if c.got.Code != c.code || c.code != impl.OK && !sameSegmentOut(c.got, segCode(c.code)) {
			t.Errorf("line %d tells %v, want the code %d", i, c.got, c.code)
		}
	}
}

// Each bit of lost keeps from one station what is said, and what is answered.
func TestSegTurnLost(t *testing.T) {
	top := impl.Stamp{Gen: 3, Origin: 2, Boot: 1, Hop: 1}
	s := impl.SegmentNew([]int64{2, 4, 5, 7}).Segment
	s.Stations[1].State, s.Stations[1].Stamp, s.Stations[1].Top, s.Stations[1].Poll = impl.StHold, top, top, 4
	poll, here := impl.Say{Kind: impl.SyPoll, From: 4, To: 5, Stamp: top}, impl.Say{Kind: impl.SyHere, From: 5, To: 4}
	for lost := range int64(16) {
		want := ownSegment(s)
		want.Stations[1].Poll = 5
		says := []impl.Say{poll}
		if lost>>2&1 == 0 {
			says = append(says, here)
		}
		for at := range want.Stations {
			hearer := &want.Stations[at]
			if lost>>at&1 == 1 {
				continue
			}
			if at != 1 {
				hearer.Top, hearer.Known = top, []int64{4}
			}
			if len(says) == 2 && at != 2 {
				hearer.Known = append(hearer.Known, 5)
			}
		}
		segIs(t, "SegTurn", s, impl.SegTurn(s, 4, lost), impl.SegmentOut{Segment: want, Says: says})
	}
	for _, s := range append(rightSegments(), wandered(2, 30)...) {
		for lost := int64(-1); lost <= 16; lost++ {
			for _, station := range s.Stations {
				segIs(t, "SegTurn", s, impl.SegTurn(s, station.Addr, lost), segTurned(s, station.Addr, lost))
			}
		}
	}
}

// Who is polled is heard by all who are up, the one who asked too; a station that is down is polled in vain.
func TestSegTurnPoll(t *testing.T) {
	s := impl.SegRound(impl.SegmentNew([]int64{1, 2, 3}).Segment, 4).Segment
	stamp := impl.Stamp{Gen: 1, Origin: 1}
	if got := impl.Holders(s); !sameNums(got, []int64{1}) {
		t.Fatalf("after four rounds %v hold the token", got)
	}
	silent := impl.SegTurn(impl.SegDown(s, 2).Segment, 1, 0)
	poll := []impl.Say{{Kind: impl.SyPoll, From: 1, To: 2, Stamp: stamp}, {Kind: impl.SyHere, From: 2, To: 1}}
	if !slices.EqualFunc(silent.Says, poll[:1], sameSay) || len(silent.Segment.Stations[0].Known) != 0 || !sameStation(silent.Segment.Stations[1], s.Stations[1]) {
		t.Errorf("of a station that is down SegTurn tells %v", silent)
	}
	got := impl.SegTurn(s, 1, 0)
	if !slices.EqualFunc(got.Says, poll, sameSay) {
		t.Fatalf("said is %v, want %v", got.Says, poll)
	}
	for at, known := range [][]int64{{2}, {1}, {1, 2}} {
		if station := got.Segment.Stations[at]; !sameNums(station.Known, known) || station.Quiet != 0 {
			t.Errorf("behind the poll it is %v, who should know %v", station, known)
		}
	}
	idle := impl.SegTurn(s, 2, 0)
	if len(idle.Says) != 0 || idle.Code != impl.OK || idle.Segment.Stations[1].Quiet != s.Stations[1].Quiet+1 {
		t.Errorf("a turn that says nothing tells %v", idle)
	}
}

// An SyData is a note just if who it is for hears it.
func TestSegTurnData(t *testing.T) {
	stamp := impl.Stamp{Gen: 6, Origin: 2, Boot: 3, Hop: 1}
	base := impl.SegmentNew([]int64{1, 2, 3, 4}).Segment
	base.Stations[1] = impl.Station{Addr: 2, State: impl.StHold, Stamp: stamp, Top: stamp, Known: []int64{3, 4}, Out: []string{"hey", "you"}}
	// Whoever hears it has a greater one already; it is heard all the same.
	base.Stations[2].Top = impl.Stamp{Gen: 7, Origin: 1}
	data := []impl.Say{{Kind: impl.SyData, From: 2, To: 3, Stamp: stamp, Body: "hey"}}
	note := impl.Note{From: 2, To: 3, Body: "hey"}
	for lost := range int64(16) {
		for downs := range 16 {
			for _, notes := range []int{0, 1, 19, 20} {
				s := ownSegment(base)
				s.Got = notesOf(notes)
				for at := range s.Up {
					s.Up[at] = at == 1 || downs>>at&1 == 0
				}
				want := notesOf(notes)
				if lost>>2&1 == 0 && s.Up[2] {
					want = append(want, note)
				}
				if len(want) > 20 {
					want = want[1:]
				}
				got := segIs(t, "SegTurn", s, impl.SegTurn(s, 2, lost), segTurned(s, 2, lost))
				if !slices.Equal(got.Segment.Got, want) || !slices.EqualFunc(got.Says, data, sameSay) || !slices.Equal(got.Segment.Stations[1].Out, []string{"you"}) {
					t.Fatalf("at lost %d, downs %d SegTurn(%v) = %v", lost, downs, s, got)
				}
			}
		}
	}
	elsewhere := ownSegment(base)
	elsewhere.Stations[1].Known = []int64{8}
	if got := impl.SegTurn(elsewhere, 2, 0); len(got.Segment.Got) != 0 || len(got.Says) != 1 || got.Says[0].To != 8 {
		t.Errorf("what goes to an address that is not there is %v", got)
	}
	nobody := ownSegment(base)
	nobody.Stations[1].Known = nil
	if got := impl.SegTurn(nobody, 2, 0); len(got.Segment.Got) != 0 || len(got.Says) != 0 || len(got.Segment.Stations[1].Out) != 1 {
		t.Errorf("what goes to nobody is %v", got)
	}
}

// A turn may be refused for four reasons, whatever the others are.
func TestSegTurnFull(t *testing.T) {
	for _, base := range rightSegments() {
		for at, station := range base.Stations {
			s := [4]impl.Segment{ownSegment(base), ownSegment(base), ownSegment(base), ownSegment(base)}
			s[0].Stations[at].Top.Gen, s[1].Stations[at].Quiet, s[2].Stations[at].Tries = impl.MaxTime, impl.MaxTime, impl.MaxTime
			s[3].Stations[at].Top.Hop = impl.MaxTime
			if station.State != impl.StIdle {
				s[3].Stations[at].Stamp.Hop = impl.MaxTime
			}
			for _, full := range s {
				got := segIs(t, "SegTurn", full, impl.SegTurn(full, station.Addr, 0), segTurned(full, station.Addr, 0))
				if isFull := got.Code == impl.ErrFull; isFull != (base.Up[at] && turned(full.Stations[at]).Code == impl.ErrFull) {
					t.Fatalf("SegTurn(%v, %d) = %v", full, station.Addr, got)
				}
				segIs(t, "SegRound", full, impl.SegRound(full, 3), segRounded(full, 3))
			}
		}
	}
}

func TestSegRound(t *testing.T) {
	for _, s := range append(append(rightSegments(), someWrongSegments()...), wandered(3, 30)...) {
		for _, rounds := range []int64{math.MinInt64, -1, 0, 1, 2, 59, 60, 61, math.MaxInt64} {
			got := segIs(t, "SegRound", s, impl.SegRound(s, rounds), segRounded(s, rounds))
			if rounds == 0 && got.Code == impl.OK && !sameSegment(got.Segment, s) {
				t.Fatalf("SegRound(%v, 0) = %v", s, got)
			}
		}
	}
}

// A round is a turn of each that is up, in order, as SegTurn does it.
func TestSegRoundIsTurns(t *testing.T) {
	for _, given := range append(rightSegments(), wandered(4, 60)...) {
		s := given
		for rounds := range int64(8) {
			if got := impl.SegRound(given, rounds); got.Code != impl.OK || len(got.Says) != 0 || !sameSegment(got.Segment, s) {
				t.Fatalf("SegRound(%v, %d) = %v, want %v", given, rounds, got, s)
			}
			for at, station := range given.Stations {
				if out := impl.SegTurn(s, station.Addr, 0); given.Up[at] {
					s = out.Segment
				}
			}
		}
	}
}

// Who can't have its turn is left as it is, and the others have theirs.
func TestSegRoundPassesOver(t *testing.T) {
	s := impl.SegmentNew([]int64{1, 2, 3}).Segment
	s.Stations[0].Quiet = impl.MaxTime
	s.Up[1] = false
	for rounds := int64(1); rounds <= 6; rounds++ {
		got := segIs(t, "SegRound", s, impl.SegRound(s, rounds), segRounded(s, rounds)).Segment
		if rounds < 6 && (got.Stations[2].Quiet != rounds || !sameStation(got.Stations[0], s.Stations[0])) {
			t.Errorf("after %d rounds it is %v", rounds, got)
		}
		if !sameStation(got.Stations[1], s.Stations[1]) {
			t.Errorf("who is down became %v", got.Stations[1])
		}
	}
	got := impl.SegRound(s, 6).Segment
	if !sameNums(impl.Holders(got), []int64{3}) || got.Stations[0].Quiet != 0 || !sameNums(got.Stations[0].Known, []int64{3}) {
		t.Errorf("after the claim it is %v", got)
	}
}

func TestSegDownAndUp(t *testing.T) {
	for _, boot := range []int64{0, 1, impl.MaxTime - 1, impl.MaxTime} {
		s := segmentOf(2, 5, 7)
		for at := range s.Stations {
			s.Stations[at].Boot = boot
		}
		for at, station := range s.Stations {
			segIs(t, "SegUp", s, impl.SegUp(s, station.Addr), segCode(impl.ErrState))
			want := ownSegment(s)
			want.Up[at] = false
			down := segIs(t, "SegDown", s, impl.SegDown(s, station.Addr), impl.SegmentOut{Segment: want}).Segment
			segIs(t, "SegDown", down, impl.SegDown(down, station.Addr), segCode(impl.ErrState))
			if boot == impl.MaxTime {
				segIs(t, "SegUp", down, impl.SegUp(down, station.Addr), segCode(impl.ErrFull))
				continue
			}
			want.Up[at] = true
			want.Stations[at] = impl.Station{Addr: station.Addr, Boot: boot + 1}
			segIs(t, "SegUp", down, impl.SegUp(down, station.Addr), impl.SegmentOut{Segment: want})
		}
	}
}

func TestSegQueueAndPublish(t *testing.T) {
	s := segmentOf(1, 4)
	queued := ownSegment(s)
	queued.Stations[1].Out = append(queued.Stations[1].Out, manyBytes(20))
	segIs(t, "SegQueue", s, impl.SegQueue(s, 4, manyBytes(20)), impl.SegmentOut{Segment: queued})
	segIs(t, "SegQueue", queued, impl.SegQueue(queued, 4, "x"), segCode(impl.ErrFull))
	for _, words := range [][]int64{nil, {}, {0}, {65535, 0, 1, 65535}} {
		published := ownSegment(s)
		published.Stations[0].Words = words
		segIs(t, "SegPublish", s, impl.SegPublish(s, 1, words), impl.SegmentOut{Segment: published})
	}
}

func TestHolders(t *testing.T) {
	counts := map[int]int{}
	for _, s := range append(append(append(rightSegments(), someWrongSegments()...), wandered(5, 60)...), edgeSegments()...) {
		got := impl.Holders(s)
		if !sameNums(got, holdersIn(s)) {
			t.Fatalf("Holders(%.900v) = %v, want %v", s, got, holdersIn(s))
		}
		counts[len(got)]++
	}
	if counts[0] < 10 || counts[1] < 10 || counts[2] < 10 {
		t.Errorf("so many hold: %v", counts)
	}
	s := segmentOf(1, 2, 3, 4)
	for at, a := range []int64{1, 2, 3, 4} {
		s.Stations[at] = stationOf(a, impl.StHold)
	}
	for downs := range 16 {
		var want []int64
		for at := range s.Up {
			s.Up[at] = downs>>at&1 == 0
			if s.Up[at] {
				want = append(want, int64(at)+1)
			}
		}
		if got := impl.Holders(s); !sameNums(got, want) {
			t.Errorf("at %v Holders = %v", s.Up, got)
		}
	}
	s.Up[0] = true
	s.Stations[3].Poll = 9
	if got := impl.Holders(s); len(got) != 0 {
		t.Errorf("of a segment that is not right Holders = %v", got)
	}
}

// silentIs looks whether who is down stays as it was, and says nothing.
func silentIs(t *testing.T, s impl.Segment, out impl.SegmentOut) {
	t.Helper()
	for at, station := range s.Stations {
		if s.Up[at] {
			continue
		}
		if !out.Segment.Up[at] && !sameStation(out.Segment.Stations[at], station) {
			t.Fatalf("%v is down, and became %v", station, out.Segment.Stations[at])
		}
		for _, m := range out.Says {
			if m.From == station.Addr {
				t.Fatalf("%v is down, and says %v", station, m)
			}
		}
	}
}

// Promise 9, of segments at random, whatever is done.
func TestRightSegmentStaysRight(t *testing.T) {
	source := rand.New(rand.NewSource(9))
	said, told := map[int64]int{}, map[int64]int{}
	for range 150 {
		s := someSegment(source)
		for range 150 {
			out := someCall(source, s, 3)
			told[out.Code]++
			if out.Code != impl.OK {
				if !sameSegmentOut(out, segCode(out.Code)) {
					t.Fatalf("beside a code %v is told", out)
				}
				continue
			}
			for _, m := range out.Says {
				said[m.Kind]++
			}
			silentIs(t, s, out)
			s = segIs(t, "a call", s, out, out).Segment
			if !impl.SegmentRight(s) {
				t.Fatalf("SegmentRight(%v) is false", s)
			}
		}
	}
	for kind := int64(1); kind <= 5; kind++ {
		if said[kind] < 50 {
			t.Errorf("just %d of kind %d are said", said[kind], kind)
		}
	}
	if told[impl.OK] < 1000 || told[impl.ErrState] < 100 || told[impl.ErrFull] < 10 {
		t.Errorf("told are %v", told)
	}
}

// Promise 9, of all segments at the edges that are right.
func TestRightSegmentStaysRightAtTheEdges(t *testing.T) {
	calls := []segCall{turnCall(0), turnCall(5), queueCall("x"), publishCall([]int64{1, 2}), {"SegDown", impl.SegDown, segDowned}, {"SegUp", impl.SegUp, segUpped}}
	for _, s := range append(edgeSegments(), rightSegments()...) {
		if !segmentIsRight(s) {
			continue
		}
		for _, c := range calls {
			for _, station := range s.Stations {
				if out := c.call(s, station.Addr); out.Code == impl.OK {
					silentIs(t, s, segIs(t, c.what, s, out, c.want(s, station.Addr)))
				}
			}
		}
		silentIs(t, s, segIs(t, "SegRound", s, impl.SegRound(s, 2), segRounded(s, 2)))
	}
}

// Promise 10: each stamp that is ever held is held at one address, by whoever was up there then.
func TestNoStampIsHeldByTwo(t *testing.T) {
	source := rand.New(rand.NewSource(10))
	held, twice := 0, 0
	for range 250 {
		s := someSegment(source)
		seldom := 1 + source.Intn(6)
		holder := map[impl.Stamp]int64{}
		for range 400 {
			out := someCall(source, s, seldom)
			if out.Code != impl.OK {
				continue
			}
			s = out.Segment
			for _, station := range s.Stations {
				if station.State != impl.StHold {
					continue
				}
				at, known := holder[station.Stamp]
				if known && at != station.Addr {
					t.Fatalf("%v is held by %d, and was held by %d", station.Stamp, station.Addr, at)
				}
				holder[station.Stamp] = station.Addr
			}
			if len(impl.Holders(s)) > 1 {
				twice++
			}
		}
		held += len(holder)
	}
	// Two tokens there must be now and then, else nothing was lost that mattered.
	if held < 2000 || twice < 200 {
		t.Errorf("%d stamps are held, %d times by several", held, twice)
	}
}

// settles lets nothing get lost for so many rounds, and looks whether just one holds the token then.
func settles(t *testing.T, given impl.Segment) {
	t.Helper()
	s := impl.SegRound(impl.SegRound(given, 60).Segment, 60).Segment
	for round := range 40 {
		s = impl.SegRound(s, 1).Segment
		if got := impl.Holders(s); len(got) != 1 {
			t.Fatalf("%d rounds behind %v %v hold the token in %v", 121+round, given, got, s)
		}
	}
}

// Promise 11, of segments that went whatever way.
func TestOneComesToHold(t *testing.T) {
	source := rand.New(rand.NewSource(11))
	many := map[int]int{}
	for range 300 {
		s := someSegment(source)
		seldom := 1 + source.Intn(6)
		for range source.Intn(300) {
			if out := someCall(source, s, seldom); out.Code == impl.OK {
				s = out.Segment
			}
		}
		many[len(impl.Holders(s))]++
		if slices.Contains(s.Up, true) {
			settles(t, s)
		} else if got := impl.Holders(impl.SegRound(s, 60).Segment); len(got) != 0 {
			t.Fatalf("all are down, and %v hold the token", got)
		}
	}
	if many[0] < 30 || many[1] < 30 || many[2] < 5 {
		t.Errorf("so many hold at first: %v", many)
	}
}

// Promise 11, of all new segments, and of each with some of it down, at once and later on.
func TestOneComesToHoldOfEachSet(t *testing.T) {
	for _, addrs := range addressSets() {
		fresh := impl.SegmentNew(addrs)
		if fresh.Code != impl.OK {
			continue
		}
		for _, s := range []impl.Segment{fresh.Segment, impl.SegRound(fresh.Segment, 25).Segment} {
			for downs := range 1<<len(addrs) - 1 {
				left := s
				for at, a := range addrs {
					if downs>>at&1 == 1 {
						left = impl.SegDown(left, a).Segment
					}
				}
				settles(t, left)
			}
		}
	}
}

// The token goes round: all who are up come to hold it, one by one, and know all others.
func TestAllTakeTurns(t *testing.T) {
	s := impl.SegmentNew([]int64{2, 3, 6, 8}).Segment
	held := map[int64]int{}
	for range 300 {
		s = impl.SegRound(s, 1).Segment
		for _, a := range impl.Holders(s) {
			held[a]++
		}
	}
	for at, a := range []int64{2, 3, 6, 8} {
		if held[a] < 30 || len(s.Stations[at].Known) != 3 {
			t.Errorf("held %v, and it is %v", held, s.Stations[at])
		}
	}
}

// segLists are all lists of numbers in an answer.
func segLists(out impl.SegmentOut) [][]int64 {
	var l [][]int64
	for _, station := range out.Segment.Stations {
		l = append(l, numLists(impl.StationOut{Station: station})...)
	}
	for _, m := range out.Says {
		l = append(l, m.Words)
	}
	return l
}

func segTexts(out impl.SegmentOut) []string {
	var l []string
	for _, station := range out.Segment.Stations {
		l = append(l, station.Out...)
	}
	for _, n := range out.Segment.Got {
		l = append(l, n.Body)
	}
	for _, m := range out.Says {
		l = append(l, m.Body)
	}
	return l
}

// spoilSegment writes over all that an answer has in lists.
func spoilSegment(t *testing.T, out impl.SegmentOut) {
	t.Helper()
	spoilNums(t, out, segLists(out))
	spoilSeats(t, out.Segment)
	says, got, up := out.Says[:cap(out.Says)], out.Segment.Got[:cap(out.Segment.Got)], out.Segment.Up[:cap(out.Segment.Up)]
	for i := range says {
		says[i] = impl.Say{Kind: 77}
	}
	for i := range got {
		got[i] = impl.Note{From: 77}
	}
	for i := range up {
		up[i] = !up[i]
	}
}

// spoilSeats writes over the other lists of each station, and over the list of these.
func spoilSeats(t *testing.T, s impl.Segment) {
	t.Helper()
	for i, station := range s.Stations {
		kept := ownSegment(impl.Segment{Stations: s.Stations[i+1:]})
		globs, texts := station.Globs[:cap(station.Globs)], station.Out[:cap(station.Out)]
		for j := range globs {
			globs[j] = impl.Glob{Addr: 77}
		}
		for j := range texts {
			texts[j] = "spoilt"
		}
		if !sameSegment(kept, impl.Segment{Stations: s.Stations[i+1:]}) {
			t.Fatalf("two stations of %v share memory", s)
		}
	}
	stations := s.Stations[:cap(s.Stations)]
	for i := range stations {
		stations[i] = impl.Station{Addr: 77}
	}
}

// laid is the same segment with something behind the end of each list, and all lists of numbers of a station in one.
func laid(given impl.Segment) (impl.Segment, [][]int64) {
	s := ownSegment(given)
	var wholes [][]int64
	for at, station := range s.Stations {
		own, whole := pieces(station)
		s.Stations[at] = own
		wholes = append(wholes, whole)
	}
	s.Stations = append(s.Stations, impl.Station{Addr: 99})[:len(given.Stations)]
	s.Up = append(s.Up, true)[:len(given.Up)]
	got := make([]impl.Note, 0, 30)
	for _, n := range given.Got {
		got = append(got, impl.Note{From: n.From, To: n.To, Body: strings.Clone(n.Body)})
	}
	s.Got = append(got, impl.Note{From: 99})[:len(got)]
	return s, wholes
}

// segmentLeft looks at one call: what is handed in stays as it is, what is answered has memory of its own.
func segmentLeft(t *testing.T, given impl.Segment, words []int64, body string, call func(s impl.Segment, words []int64) impl.SegmentOut) {
	t.Helper()
	s, wholes := laid(given)
	var kept [][]int64
	for _, whole := range wholes {
		kept = append(kept, append([]int64{}, whole...))
	}
	wordsKept := append([]int64{}, words...)
	words = append(append(make([]int64, 0, 10), words...), 55)[:len(words)]
	out, other := call(s, words), call(s, words)
	want := ownSegmentOut(other)
	handedIn := append(segTexts(impl.SegmentOut{Segment: s}), body)
	for _, text := range segTexts(out) {
		for _, in := range handedIn {
			if sharesText(text, in) {
				t.Fatalf("%q in %v is handed in", text, out)
			}
		}
	}
	spoilSegment(t, out)
	behind := s.Stations[:len(s.Stations)+1][len(s.Stations)].Addr == 99 && s.Up[:len(s.Up)+1][len(s.Up)] && s.Got[:len(s.Got)+1][len(s.Got)].From == 99
	if !sameSegment(s, given) || !reflect.DeepEqual(wholes, kept) || !behind || !sameNums(words, wordsKept) || words[:len(words)+1][len(words)] != 55 {
		t.Fatalf("%v is changed to %v, or %v to %v", given, s, wordsKept, words)
	}
	if !sameSegmentOut(other, want) {
		t.Fatalf("two answers of %v share memory", given)
	}
}

func TestSegmentMemory(t *testing.T) {
	body := strings.Clone(manyBytes(20))
	for _, s := range append(rightSegments(), wandered(6, 60)...) {
		for _, rounds := range []int64{0, 1, 7} {
			segmentLeft(t, s, nil, "", func(s impl.Segment, words []int64) impl.SegmentOut { return impl.SegRound(s, rounds) })
		}
		for _, station := range s.Stations {
			addr := station.Addr
			segmentLeft(t, s, nil, "", func(s impl.Segment, words []int64) impl.SegmentOut { return impl.SegTurn(s, addr, 0) })
			segmentLeft(t, s, nil, "", func(s impl.Segment, words []int64) impl.SegmentOut { return impl.SegTurn(s, addr, 6) })
			segmentLeft(t, s, nil, "", func(s impl.Segment, words []int64) impl.SegmentOut { return impl.SegDown(s, addr) })
			segmentLeft(t, s, nil, "", func(s impl.Segment, words []int64) impl.SegmentOut { return impl.SegUp(s, addr) })
			segmentLeft(t, s, nil, body, func(s impl.Segment, words []int64) impl.SegmentOut { return impl.SegQueue(s, addr, body) })
			segmentLeft(t, s, []int64{3, 4}, "", func(s impl.Segment, words []int64) impl.SegmentOut { return impl.SegPublish(s, addr, words) })
		}
		first, second := impl.Holders(s), impl.Holders(s)
		spoil(first)
		if !sameNums(second, holdersIn(s)) {
			t.Fatal("what Holders answers shares memory")
		}
	}
	addrs := []int64{1, 2, 5}
	first, second := impl.SegmentNew(addrs), impl.SegmentNew(addrs)
	spoilSegment(t, first)
	if !sameNums(addrs, []int64{1, 2, 5}) || !sameSegmentOut(second, impl.SegmentNew([]int64{1, 2, 5})) {
		t.Errorf("of %v two new segments share memory: %v", addrs, second)
	}
}

func FuzzSegment(f *testing.F) {
	for addr := int64(1); addr <= 4; addr++ {
		for lost := range int64(17) {
			f.Add("\x01\x02\x03\x04", "turn and turn about, and round and round it goes\x00\x01\x02\x03\x04\x05", addr, lost, "hey")
		}
	}
	f.Fuzz(func(t *testing.T, addrs string, way string, addr int64, lost int64, body string) {
		var all []int64
		for i := range min(len(addrs), 6) {
			all = append(all, int64(addrs[i])%10)
		}
		fresh := impl.SegmentNew(all)
		if fresh.Code != impl.OK {
			return
		}
		s := fresh.Segment
		for i := range min(len(way), 200) {
			at, what := s.Stations[int(way[i]>>6)%len(s.Stations)].Addr, int64(way[i]&63)
			c := turnCall(what & 15)
			switch {
			case what == 60:
				c = segCall{"SegDown", impl.SegDown, segDowned}
			case what == 61:
				c = segCall{"SegUp", impl.SegUp, segUpped}
			case what == 62:
				c = queueCall(body)
			case what == 63:
				c = publishCall([]int64{addr, lost})
			case what >= 16:
				c = turnCall(0)
			}
			if out := segIs(t, c.what, s, c.call(s, at), c.want(s, at)); out.Code == impl.OK {
				silentIs(t, s, out)
				s = out.Segment
			}
		}
		kept := ownSegment(s)
		for _, c := range []segCall{turnCall(lost), queueCall(body), publishCall([]int64{addr, lost}), {"SegDown", impl.SegDown, segDowned}, {"SegUp", impl.SegUp, segUpped}} {
			segIs(t, c.what, s, c.call(s, addr), c.want(s, addr))
		}
		segIs(t, "SegRound", s, impl.SegRound(s, lost), segRounded(s, lost))
		if !sameSegment(s, kept) {
			t.Fatalf("%v is changed to %v", kept, s)
		}
	})
}
