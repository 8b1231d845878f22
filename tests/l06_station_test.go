package tests

import (
	"math"
	"math/rand"
	"reflect"
	"slices"
	"strings"
	"testing"

	"loop.example/g00556/impl"
)

func wordsAreRight(words []int64) bool {
	for _, n := range words {
		if !within(n, 0, 65535) {
			return false
		}
	}
	return len(words) <= 4
}

// othersAreRight is the document's words on Known, and on the Addrs of Globs.
func othersAreRight(addrs []int64, own int64) bool {
	for i, a := range addrs {
		if !within(a, 1, 8) || a == own || i > 0 && a <= addrs[i-1] {
			return false
		}
	}
	return true
}

// stationIsRight is the document's words on a right Station.
func stationIsRight(s impl.Station) bool {
	if !within(s.Addr, 1, 8) || !within(s.Boot, 0, 1000000) || !within(s.Quiet, 0, 1000000) || !within(s.Tries, 0, 1000000) {
		return false
	}
	if !within(s.State, 0, 2) || !within(s.Poll, 0, 8) || !stampIsRight(s.Stamp) || !stampIsRight(s.Top) {
		return false
	}
	if (s.State == 0) != (s.Stamp == impl.Stamp{}) || rankOf(s.Stamp) > rankOf(s.Top) {
		return false
	}
	if s.State == 2 && (!within(s.Heir, 1, 8) || s.Heir == s.Addr) || s.State != 2 && s.Heir != 0 {
		return false
	}
	var tellers []int64
	for _, g := range s.Globs {
		if !wordsAreRight(g.Words) {
			return false
		}
		tellers = append(tellers, g.Addr)
	}
	for _, body := range s.Out {
		if !within(int64(len(body)), 1, 20) {
			return false
		}
	}
	return othersAreRight(s.Known, s.Addr) && othersAreRight(tellers, s.Addr) && wordsAreRight(s.Words) && len(s.Out) <= 3
}

// ownStation is the same station in memory of its own, an empty list and none alike.
func ownStation(s impl.Station) impl.Station {
	s.Known = append([]int64(nil), s.Known...)
	s.Words = append([]int64(nil), s.Words...)
	var globs []impl.Glob
	for _, g := range s.Globs {
		globs = append(globs, impl.Glob{Addr: g.Addr, Words: append([]int64(nil), g.Words...)})
	}
	s.Globs = globs
	s.Out = append([]string(nil), s.Out...)
	return s
}

func sameStation(a impl.Station, b impl.Station) bool {
	return reflect.DeepEqual(ownStation(a), ownStation(b))
}

func sameStationOut(a impl.StationOut, b impl.StationOut) bool {
	return a.Code == b.Code && sameStation(a.Station, b.Station) && slices.EqualFunc(a.Says, b.Says, sameSay)
}

// outIs looks at one answer, and whether a station stays right.
func outIs(t *testing.T, what string, s impl.Station, got impl.StationOut, want impl.StationOut) impl.StationOut {
	t.Helper()
	if !sameStationOut(got, want) {
		t.Fatalf("%s of %.400v\n got %.400v\nwant %.400v", what, s, got, want)
	}
	if got.Code == impl.OK && !stationIsRight(got.Station) {
		t.Fatalf("%s of %.400v makes a station that is not right: %.400v", what, s, got)
	}
	for _, m := range got.Says {
		if !sayIsRight(m) {
			t.Fatalf("%s of %.400v says what is not right: %.200v", what, s, m)
		}
	}
	return got
}

// nextIs is NextOf in the document's words, looked for round the circle.
func nextIs(s impl.Station) int64 {
	for step := int64(1); step < 8; step++ {
		if a := (s.Addr-1+step)%8 + 1; slices.Contains(s.Known, a) {
			return a
		}
	}
	return 0
}

// anew gives it a new stamp, with so many hops.
func anew(s *impl.Station, hop int64) {
	s.Stamp = impl.Stamp{Gen: s.Top.Gen + 1, Origin: s.Addr, Boot: s.Boot, Hop: hop}
	s.Top = s.Stamp
}

// turned is what Turn must answer, in the document's words.
func turned(given impl.Station) impl.StationOut {
	if !stationIsRight(given) {
		return impl.StationOut{Code: 1}
	}
	if slices.Contains([]int64{given.Top.Gen, given.Stamp.Hop, given.Quiet, given.Tries}, 1000000) {
		return impl.StationOut{Code: 9}
	}
	out := impl.StationOut{Station: ownStation(given)}
	s := &out.Station
	say := func(kind int64, to int64, words []int64, body string) {
		out.Says = append(out.Says, impl.Say{Kind: kind, From: s.Addr, To: to, Stamp: s.Stamp, Words: words, Body: body})
	}
	switch given.State {
	case 0:
		s.Quiet = given.Quiet + 1
		if s.Quiet >= 3+s.Addr {
			anew(s, 0)
			s.State, s.Quiet, s.Tries, s.Poll = 1, 0, 0, 0
			say(1, 0, nil, "")
		}
	case 1:
		turnedHold(s, given, say)
	case 2:
		if given.Tries < 3 {
			s.Tries = given.Tries + 1
			say(2, given.Heir, given.Words, "")
			break
		}
		s.Known = slices.DeleteFunc(s.Known, func(a int64) bool { return a == given.Heir })
		anew(s, 0)
		s.State, s.Heir, s.Tries, s.Poll = 1, 0, 0, 0
	}
	return out
}

func turnedHold(s *impl.Station, given impl.Station, say func(kind int64, to int64, words []int64, body string)) {
	next := nextIs(given)
	if len(given.Out) > 0 {
		s.Out = s.Out[1:]
		if next != 0 {
			say(5, next, nil, given.Out[0])
		}
		return
	}
	for a := given.Poll + 1; a < 9; a++ {
		if a != s.Addr && !slices.Contains(s.Known, a) {
			s.Poll = a
			say(3, a, nil, "")
			return
		}
	}
	s.Poll = 0
	if next != 0 {
		anew(s, given.Stamp.Hop+1)
		s.State, s.Heir, s.Tries = 2, next, 1
		say(2, next, given.Words, "")
	}
}

// hears is what Hear must answer, in the document's words.
func hears(given impl.Station, m impl.Say) impl.StationOut {
	if !stationIsRight(given) || !sayIsRight(m) {
		return impl.StationOut{Code: 1}
	}
	out := impl.StationOut{Station: ownStation(given)}
	s := &out.Station
	if m.From == s.Addr {
		return out
	}
	if !slices.Contains(s.Known, m.From) {
		s.Known = append(s.Known, m.From)
		slices.Sort(s.Known)
	}
	heard, top := rankOf(m.Stamp), rankOf(given.Top)
	if heard == 0 || heard >= top {
		s.Quiet = 0
	}
	if heard == 0 || heard < top {
		return out
	}
	if heard > top || given.State == 2 {
		s.State, s.Stamp, s.Heir, s.Tries = 0, impl.Stamp{}, 0, 0
	}
	if heard > top {
		s.Top = m.Stamp
		if m.Kind == 2 && m.To == s.Addr {
			s.State, s.Stamp, s.Poll = 1, m.Stamp, 0
		}
	}
	if m.Kind == 2 {
		s.Globs = slices.DeleteFunc(s.Globs, func(g impl.Glob) bool { return g.Addr == m.From })
		s.Globs = append(s.Globs, impl.Glob{Addr: m.From, Words: m.Words})
		slices.SortFunc(s.Globs, func(a impl.Glob, b impl.Glob) int { return int(a.Addr - b.Addr) })
	}
	if m.Kind == 3 && m.To == s.Addr {
		out.Says = []impl.Say{{Kind: 4, From: s.Addr, To: m.From}}
	}
	return out
}

// stationOf is a right station of that state, with something in each of its lists.
func stationOf(addr int64, state int64) impl.Station {
	other, another := addr%8+1, (addr+3)%8+1
	low, high := min(other, another), max(other, another)
	s := impl.Station{
		Addr: addr, Boot: 7, State: state, Top: impl.Stamp{Gen: 5, Origin: 4, Boot: 6, Hop: 9}, Quiet: 2, Tries: 1, Poll: 3,
		Known: []int64{low, high}, Words: []int64{10, 20}, Out: []string{"one", "two"},
		Globs: []impl.Glob{{Addr: low, Words: []int64{1, 2, 3}}, {Addr: high}},
	}
	if state != impl.StIdle {
		s.Stamp = s.Top
	}
	if state == impl.StPass {
		s.Heir = other
	}
	return s
}

func allStates() []int64 {
	return []int64{impl.StIdle, impl.StHold, impl.StPass}
}

// knownLists are whom a station may know: each set of the other addresses.
func knownLists(own int64) [][]int64 {
	var l [][]int64
	for set := range 256 {
		var addrs []int64
		for a := int64(1); a <= 8; a++ {
			if set>>(a-1)&1 == 1 {
				addrs = append(addrs, a)
			}
		}
		if !slices.Contains(addrs, own) {
			l = append(l, addrs)
		}
	}
	return l
}

// addressLists are lists of addresses and others that rise and that do not, with each address as the own one of some station.
func addressLists() [][]int64 {
	return [][]int64{
		nil, {}, {1}, {2}, {8}, {0}, {9}, {-1}, {math.MinInt64}, {math.MaxInt64},
		{1, 2}, {2, 1}, {1, 1}, {8, 8}, {7, 8}, {8, 7}, {1, 8}, {0, 1}, {8, 9}, {-1, 1}, {1, 2, 2}, {1, 3, 2}, {2, 3, 1}, {1, 2, 9}, {0, 2, 3},
		{1, 2, 3, 4, 5, 6, 7}, {2, 3, 4, 5, 6, 7, 8}, {1, 2, 3, 5, 6, 7, 8}, {1, 2, 3, 4, 5, 6, 7, 8}, {1, 2, 3, 4, 5, 6, 7, 7}, {8, 7, 6, 5, 4, 3, 2, 1},
		{1, 2, 3, 4, 5, 6, 7, 8, 9}, listOf(8, 2), listOf(impl.MaxList, 2), listOf(impl.MaxList+1, 2),
	}
}

func outLists() [][]string {
	long := manyBytes(20)
	return [][]string{
		nil, {}, {"x"}, {"\x00"}, {long}, {""}, {manyBytes(21)}, {manyBytes(impl.MaxBytes)}, {manyBytes(impl.MaxBytes + 1)},
		{"x", "y"}, {"x", "x", "x"}, {long, long, long}, {"", "x", "y"}, {"x", "", "y"}, {"x", "y", ""}, {"x", "y", manyBytes(21)},
		{"x", "y", "z", "z"}, {"", "", "", ""}, make([]string, impl.MaxList+1),
	}
}

// edgeStations have each field by itself at its lowest, its highest and just outside; State, Stamp, Top and Heir together.
func edgeStations() []impl.Station {
	var l []impl.Station
	for _, addr := range []int64{1, 2, 8} {
		for _, state := range allStates() {
			base := stationOf(addr, state)
			for _, n := range edgeTimes() {
				s := [3]impl.Station{base, base, base}
				s[0].Boot, s[1].Quiet, s[2].Tries = n, n, n
				l = append(l, s[:]...)
			}
			for _, n := range append(edgeAddresses(), 3, 5) {
				s := [4]impl.Station{base, base, base, base}
				s[0].Addr, s[1].Poll, s[2].Heir, s[3].State = n, n, n, n
				l = append(l, s[:]...)
				s[0].Known, s[0].Globs = nil, nil
				l = append(l, s[0])
			}
			for _, addrs := range addressLists() {
				s := [2]impl.Station{base, base}
				s[0].Known, s[1].Globs = addrs, nil
				for i, a := range addrs {
					s[1].Globs = append(s[1].Globs, impl.Glob{Addr: a, Words: listOf(i%5, 65535)})
				}
				l = append(l, s[:]...)
			}
			for _, words := range edgeWords() {
				s := [3]impl.Station{base, base, base}
				s[0].Words, s[1].Globs, s[2].Globs = words, []impl.Glob{{Addr: 3, Words: words}}, []impl.Glob{{Addr: 3}, {Addr: 4, Words: words}}
				l = append(l, s[:]...)
			}
			for _, base.Out = range outLists() {
				l = append(l, base)
			}
		}
	}
	return append(l, edgeTokens()...)
}

// edgeTokens are each state with and without a stamp and an heir, of stamps at Top, below it and above it.
func edgeTokens() []impl.Station {
	stamps := append([]impl.Stamp{
		{}, {Origin: 1}, {Origin: 8}, {Gen: 5, Origin: 4, Boot: 6, Hop: 9}, {Gen: 5, Origin: 4, Boot: 6, Hop: 8}, {Gen: 5, Origin: 4, Boot: 6, Hop: 10},
		{Gen: 5, Origin: 4, Boot: 7}, {Gen: 5, Origin: 3, Boot: 7}, {Gen: 6, Origin: 1},
		{Gen: impl.MaxTime, Origin: 8, Boot: impl.MaxTime, Hop: impl.MaxTime}, {Gen: impl.MaxTime, Origin: 8, Boot: impl.MaxTime, Hop: impl.MaxTime - 1},
	}, wrongStamps()...)
	var l []impl.Station
	for _, state := range []int64{-1, 0, 1, 2, 3} {
		for _, heir := range []int64{-1, 0, 1, 2, 8, 9} {
			for _, stamp := range stamps {
				for _, top := range stamps {
					s := stationOf(2, state)
					s.Heir, s.Stamp, s.Top = heir, stamp, top
					l = append(l, s)
				}
			}
		}
	}
	return l
}

// wrongStations are not right, each for one reason that stands by itself.
func wrongStations() []impl.Station {
	var l []impl.Station
	for _, s := range edgeStations() {
		if !stationIsRight(s) {
			l = append(l, s)
		}
	}
	return append(l, impl.Station{})
}

func rightStations() []impl.Station {
	var l []impl.Station
	for _, s := range edgeStations() {
		if stationIsRight(s) {
			l = append(l, s)
		}
	}
	return l
}

func TestStates(t *testing.T) {
	if impl.StIdle != 0 || impl.StHold != 1 || impl.StPass != 2 {
		t.Errorf("the states are %d, %d, %d", impl.StIdle, impl.StHold, impl.StPass)
	}
}

func TestStationRight(t *testing.T) {
	right := 0
	for _, s := range edgeStations() {
		want := stationIsRight(s)
		if got := impl.StationRight(s); got != want {
			t.Fatalf("StationRight(%.600v) = %v", s, got)
		}
		if want {
			right++
		}
	}
	if right < 500 {
		t.Errorf("just %d of the edges are right", right)
	}
	for addr := int64(1); addr <= 8; addr++ {
		for _, state := range allStates() {
			s := stationOf(addr, state)
			if !impl.StationRight(s) {
				t.Errorf("StationRight(%v) is false", s)
			}
			for _, s.Known = range knownLists(addr) {
				if !impl.StationRight(s) {
					t.Errorf("StationRight(%v) is false", s)
				}
			}
		}
	}
	if impl.StationRight(impl.Station{}) {
		t.Error("the zero station is right")
	}
}

func TestStationNew(t *testing.T) {
	for _, addr := range append(edgeAddresses(), 3, 4, 5, 6) {
		for _, boot := range edgeTimes() {
			want := impl.StationOut{Code: impl.ErrForm}
			if within(addr, 1, 8) && within(boot, 0, 1000000) {
				want = impl.StationOut{Station: impl.Station{Addr: addr, Boot: boot}}
			}
			outIs(t, "StationNew", impl.Station{Addr: addr, Boot: boot}, impl.StationNew(addr, boot), want)
		}
	}
}

func TestNextOf(t *testing.T) {
	for _, c := range []struct {
		addr  int64
		known []int64
		want  int64
	}{
		{1, nil, 0}, {8, nil, 0}, {1, []int64{2}, 2}, {8, []int64{7}, 7}, {8, []int64{1, 7}, 1}, {4, []int64{1, 2, 3}, 1},
		{4, []int64{3, 5}, 5}, {4, []int64{1, 3, 8}, 8}, {4, []int64{6, 7, 8}, 6}, {1, []int64{2, 3, 4, 5, 6, 7, 8}, 2}, {8, []int64{1, 2, 3, 4, 5, 6, 7}, 1},
	} {
		if got := impl.NextOf(impl.Station{Addr: c.addr, Known: c.known}); got != c.want {
			t.Errorf("NextOf %d, who knows %v, = %d, want %d", c.addr, c.known, got, c.want)
		}
	}
	for addr := int64(1); addr <= 8; addr++ {
		for _, state := range allStates() {
			s := stationOf(addr, state)
			for _, s.Known = range knownLists(addr) {
				if got := impl.NextOf(s); got != nextIs(s) {
					t.Errorf("NextOf(%v) = %d, want %d", s, got, nextIs(s))
				}
			}
		}
	}
	for _, s := range wrongStations() {
		if got := impl.NextOf(s); got != 0 {
			t.Fatalf("NextOf(%.600v), which is not right, = %d", s, got)
		}
	}
}

func TestTurnForm(t *testing.T) {
	for _, s := range edgeStations() {
		outIs(t, "Turn", s, impl.Turn(s), turned(s))
	}
	for _, s := range wrongStations() {
		outIs(t, "Turn", s, impl.Turn(s), impl.StationOut{Code: impl.ErrForm})
		// What is at its end does not hide that it is not right.
		s.Tries = impl.MaxTime
		if !stationIsRight(s) {
			outIs(t, "Turn", s, impl.Turn(s), impl.StationOut{Code: impl.ErrForm})
		}
	}
}

func TestTurnFull(t *testing.T) {
	full := impl.StationOut{Code: impl.ErrFull}
	for _, state := range allStates() {
		for _, out := range [][]string{nil, {"one"}} {
			for _, known := range [][]int64{nil, {3}, {1, 3, 4, 5, 6, 7, 8}} {
				base := stationOf(2, state)
				base.Out, base.Known = out, known
				gen, quiet, tries := base, base, base
				gen.Top.Gen, quiet.Quiet, tries.Tries = impl.MaxTime, impl.MaxTime, impl.MaxTime
				for _, s := range []impl.Station{gen, quiet, tries} {
					outIs(t, "Turn", s, impl.Turn(s), full)
				}
				gen.Top.Gen, quiet.Quiet, tries.Tries = impl.MaxTime-1, impl.MaxTime-1, impl.MaxTime-1
				// Neither its Boot nor the Hop of Top counts, if Stamp has another.
				boot := base
				boot.Boot, boot.Top.Boot, boot.Top.Hop = impl.MaxTime, impl.MaxTime, impl.MaxTime
				for _, s := range []impl.Station{gen, quiet, tries, boot} {
					if got := outIs(t, "Turn", s, impl.Turn(s), turned(s)); got.Code != impl.OK {
						t.Errorf("Turn(%v) = %v", s, got)
					}
				}
				if state == impl.StIdle {
					continue
				}
				hop := base
				hop.Top.Hop, hop.Stamp.Hop = impl.MaxTime, impl.MaxTime
				outIs(t, "Turn", hop, impl.Turn(hop), full)
				hop.Stamp.Hop--
				if got := outIs(t, "Turn", hop, impl.Turn(hop), turned(hop)); got.Code != impl.OK {
					t.Errorf("Turn(%v) = %v", hop, got)
				}
			}
		}
	}
}

func TestTurnIdle(t *testing.T) {
	for addr := int64(1); addr <= 8; addr++ {
		claims := int64(0)
		for _, top := range []impl.Stamp{{}, {Origin: 1}, {Gen: 4, Origin: 8, Boot: 9, Hop: 9}, {Gen: impl.MaxTime - 1, Origin: 8, Boot: impl.MaxTime, Hop: impl.MaxTime}} {
			for _, quiet := range []int64{0, 1, 2, 3, 4, 5, 6, 7, 8, 9, 10, 11, 12, impl.MaxTime - 1} {
				for _, tries := range []int64{0, 1, 3, 4} {
					s := stationOf(addr, impl.StIdle)
					s.Top, s.Quiet, s.Tries, s.Poll = top, quiet, tries, addr
					got := outIs(t, "Turn", s, impl.Turn(s), turned(s))
					want := ownStation(s)
					want.Quiet++
					if quiet < addr+2 {
						outIs(t, "Turn", s, got, impl.StationOut{Station: want})
						continue
					}
					claims++
					stamp := impl.Stamp{Gen: top.Gen + 1, Origin: addr, Boot: 7}
					want.State, want.Stamp, want.Top, want.Quiet, want.Tries, want.Poll = impl.StHold, stamp, stamp, 0, 0, 0
					outIs(t, "Turn", s, got, impl.StationOut{Station: want, Says: []impl.Say{{Kind: impl.SyClaim, From: addr, Stamp: stamp}}})
				}
			}
		}
		if claims < 16 {
			t.Errorf("%d claims just %d times", addr, claims)
		}
	}
}

func TestTurnHold(t *testing.T) {
	kinds := map[int64]int{}
	for addr := int64(1); addr <= 8; addr++ {
		for _, known := range knownLists(addr) {
			for poll := range int64(9) {
				for _, out := range [][]string{nil, {"x"}, {"one", "two", manyBytes(20)}} {
					s := stationOf(addr, impl.StHold)
					s.Known, s.Poll, s.Out = known, poll, out
					got := outIs(t, "Turn", s, impl.Turn(s), turned(s))
					if len(got.Says) == 0 {
						kinds[0]++
					} else {
						kinds[got.Says[0].Kind]++
					}
				}
			}
		}
	}
	for _, kind := range []int64{0, impl.SyToken, impl.SyPoll, impl.SyData} {
		if kinds[kind] < 20 {
			t.Errorf("just %d times something of kind %d is said", kinds[kind], kind)
		}
	}
	if len(kinds) != 4 {
		t.Errorf("kinds said: %v", kinds)
	}
}

// A stamp below Top may be held by a station that is handed in; it is what is said, till there is a new one.
func TestTurnHoldBelowTop(t *testing.T) {
	below, top := impl.Stamp{Gen: 3, Origin: 8, Boot: 2, Hop: 11}, impl.Stamp{Gen: 6, Origin: 5, Boot: 4, Hop: 2}
	base := impl.Station{Addr: 3, Boot: 1, State: impl.StHold, Stamp: below, Top: top, Known: []int64{5}, Words: []int64{8}}
	data, poll, token := base, base, base
	data.Out, token.Poll = []string{"hey"}, 8
	stamp := impl.Stamp{Gen: 7, Origin: 3, Boot: 1, Hop: 12}
	for _, c := range []struct {
		s    impl.Station
		want impl.Say
	}{
		{data, impl.Say{Kind: impl.SyData, From: 3, To: 5, Stamp: below, Body: "hey"}},
		{poll, impl.Say{Kind: impl.SyPoll, From: 3, To: 1, Stamp: below}},
		{token, impl.Say{Kind: impl.SyToken, From: 3, To: 5, Stamp: stamp, Words: []int64{8}}},
	} {
		got := outIs(t, "Turn", c.s, impl.Turn(c.s), turned(c.s))
		if len(got.Says) != 1 || !sameSay(got.Says[0], c.want) {
			t.Errorf("Turn(%v) says %v, want %v", c.s, got.Says, c.want)
		}
	}
	if got := impl.Turn(token).Station; got.Stamp != stamp || got.Top != stamp || got.Heir != 5 || got.Tries != 1 || got.State != impl.StPass {
		t.Errorf("handed on, it is %v", got)
	}
}

func TestTurnPass(t *testing.T) {
	for addr := int64(1); addr <= 8; addr++ {
		for heir := int64(1); heir <= 8; heir++ {
			if heir == addr {
				continue
			}
			for _, known := range knownLists(addr) {
				for _, tries := range []int64{0, 1, 2, 3, 4, 5, impl.MaxTime - 1} {
					s := stationOf(addr, impl.StPass)
					s.Heir, s.Known, s.Tries = heir, known, tries
					got := outIs(t, "Turn", s, impl.Turn(s), turned(s))
					if tries < 3 != (got.Station.State == impl.StPass) || tries < 3 != (len(got.Says) == 1) {
						t.Fatalf("at %d tries Turn(%v) = %v", tries, s, got)
					}
				}
			}
		}
	}
	s := impl.Station{Addr: 4, Boot: 2, State: impl.StPass, Stamp: impl.Stamp{Gen: 8, Origin: 4, Boot: 2, Hop: 3}, Top: impl.Stamp{Gen: 9, Origin: 1}, Quiet: 5, Tries: 2, Heir: 6, Poll: 7, Known: []int64{1, 6, 7}, Words: []int64{3}, Globs: []impl.Glob{{Addr: 6, Words: []int64{5}}}, Out: []string{"hey"}}
	again := ownStation(s)
	again.Tries = 3
	outIs(t, "Turn", s, impl.Turn(s), impl.StationOut{Station: again, Says: []impl.Say{{Kind: impl.SyToken, From: 4, To: 6, Stamp: s.Stamp, Words: []int64{3}}}})
	stamp := impl.Stamp{Gen: 10, Origin: 4, Boot: 2}
	holds := ownStation(s)
	holds.State, holds.Stamp, holds.Top, holds.Heir, holds.Tries, holds.Poll, holds.Known = impl.StHold, stamp, stamp, 0, 0, 0, []int64{1, 7}
	outIs(t, "Turn", again, impl.Turn(again), impl.StationOut{Station: holds})
}

// heardStamps are none, ones below a Top, it, and ones above it.
func heardStamps(top impl.Stamp) []impl.Stamp {
	l := []impl.Stamp{{}, {Origin: 1}, {Origin: 8, Boot: impl.MaxTime, Hop: impl.MaxTime}, {Gen: impl.MaxTime, Origin: 8, Boot: impl.MaxTime, Hop: impl.MaxTime}, top}
	for _, by := range []int64{-1, 1} {
		gen, origin, boot, hop := top, top, top, top
		gen.Gen += by
		origin.Origin += by
		boot.Boot += by
		hop.Hop += by
		turned := gen
		turned.Origin, turned.Boot, turned.Hop = 5-by, top.Boot-by, top.Hop-by
		l = append(l, gen, origin, boot, hop, turned)
	}
	return l
}

// heardSays are Says of each kind, to a station and to others, from it and from others, of stamps about its Top.
func heardSays(s impl.Station) []impl.Say {
	var l []impl.Say
	for kind := int64(0); kind <= 6; kind++ {
		form, _ := formOf(kind)
		for _, from := range []int64{1, 2, 3, 4, 8} {
			for _, to := range []int64{0, 1, 2, 3, 4, 8} {
				for _, stamp := range heardStamps(s.Top) {
					m := impl.Say{Kind: kind, From: from, To: to, Stamp: stamp}
					if form.body {
						m.Body = "hey"
					}
					if form.words {
						m.Words = listOf(int(from+to)%5, 100*from+to)
					}
					l = append(l, m)
				}
			}
		}
	}
	return l
}

// hearers are stations of each state, of a Stamp that is Top and one below, whom what they know and were told tells apart.
func hearers() []impl.Station {
	var l []impl.Station
	for _, addr := range []int64{1, 3, 8} {
		for _, state := range allStates() {
			for _, known := range [][]int64{nil, {2}, {4, 7}, {2, 4, 5, 6, 7}} {
				for _, tellers := range [][]int64{nil, {2}, {4}, {2, 4, 5, 6, 7}} {
					s := stationOf(addr, state)
					s.Known, s.Globs, s.Tries, s.Quiet = known, nil, 2, 3
					for _, a := range tellers {
						s.Globs = append(s.Globs, impl.Glob{Addr: a, Words: []int64{a, 9}})
					}
					l = append(l, s)
					if state != impl.StIdle {
						s.Stamp.Hop--
						l = append(l, s)
					}
					s.Top, s.Stamp = impl.Stamp{}, impl.Stamp{}
					l = append(l, s)
				}
			}
		}
	}
	return l
}

func TestHear(t *testing.T) {
	became := map[[2]int64]int{}
	here := 0
	for _, s := range hearers() {
		for _, m := range heardSays(s) {
			got := outIs(t, "Hear", s, impl.Hear(s, m), hears(s, m))
			if got.Code == impl.OK {
				became[[2]int64{s.State, got.Station.State}]++
				here += len(got.Says)
			}
		}
	}
	for _, from := range allStates() {
		for _, to := range allStates() {
			if want := to != impl.StPass || from == to; (became[[2]int64{from, to}] > 100) != want {
				t.Errorf("state %d became %d %d times", from, to, became[[2]int64{from, to}])
			}
		}
	}
	if here < 100 {
		t.Errorf("just %d polls are answered", here)
	}
}

func TestHearByHand(t *testing.T) {
	top := impl.Stamp{Gen: 5, Origin: 4, Boot: 6, Hop: 9}
	below, above := impl.Stamp{Gen: 5, Origin: 4, Boot: 6, Hop: 8}, impl.Stamp{Gen: 5, Origin: 4, Boot: 6, Hop: 10}
	base := impl.Station{Addr: 3, Boot: 1, State: impl.StPass, Stamp: top, Top: top, Quiet: 2, Tries: 2, Heir: 5, Poll: 6, Known: []int64{5}, Words: []int64{7}, Globs: []impl.Glob{{Addr: 5, Words: []int64{1}}}, Out: []string{"out"}}
	with := func(change func(s *impl.Station)) impl.Station {
		s := ownStation(base)
		change(&s)
		return s
	}
	letGo := func(s *impl.Station) {
		s.State, s.Stamp, s.Heir, s.Tries, s.Quiet = impl.StIdle, impl.Stamp{}, 0, 0, 0
	}
	for _, c := range []struct {
		m    impl.Say
		want impl.Station
		says []impl.Say
	}{
		{impl.Say{Kind: impl.SyClaim, From: 3, Stamp: above}, base, nil},
		{impl.Say{Kind: impl.SyToken, From: 3, To: 5, Stamp: above, Words: []int64{4}}, base, nil},
		{impl.Say{Kind: impl.SyHere, From: 4, To: 3}, with(func(s *impl.Station) { s.Known, s.Quiet = []int64{4, 5}, 0 }), nil},
		{impl.Say{Kind: impl.SyHere, From: 4, To: 1}, with(func(s *impl.Station) { s.Known, s.Quiet = []int64{4, 5}, 0 }), nil},
		{impl.Say{Kind: impl.SyToken, From: 6, To: 3, Stamp: below, Words: []int64{4}}, with(func(s *impl.Station) { s.Known = []int64{5, 6} }), nil},
		{impl.Say{Kind: impl.SyPoll, From: 1, To: 3, Stamp: below}, with(func(s *impl.Station) { s.Known = []int64{1, 5} }), nil},
		{impl.Say{Kind: impl.SyData, From: 5, To: 1, Stamp: top, Body: "x"}, with(letGo), nil},
		{impl.Say{Kind: impl.SyPoll, From: 5, To: 1, Stamp: top}, with(letGo), nil},
		{impl.Say{Kind: impl.SyPoll, From: 5, To: 3, Stamp: top}, with(letGo), []impl.Say{{Kind: impl.SyHere, From: 3, To: 5}}},
		{impl.Say{Kind: impl.SyPoll, From: 5, To: 3, Stamp: above}, with(func(s *impl.Station) { letGo(s); s.Top = above }), []impl.Say{{Kind: impl.SyHere, From: 3, To: 5}}},
		{impl.Say{Kind: impl.SyToken, From: 4, To: 3, Stamp: top, Words: []int64{9}}, with(func(s *impl.Station) {
			letGo(s)
			s.Known, s.Globs = []int64{4, 5}, []impl.Glob{{Addr: 4, Words: []int64{9}}, {Addr: 5, Words: []int64{1}}}
		}), nil},
		{impl.Say{Kind: impl.SyToken, From: 5, To: 8, Stamp: above, Words: []int64{9, 8}}, with(func(s *impl.Station) {
			letGo(s)
			s.Top, s.Globs = above, []impl.Glob{{Addr: 5, Words: []int64{9, 8}}}
		}), nil},
		{impl.Say{Kind: impl.SyToken, From: 5, To: 3, Stamp: above}, with(func(s *impl.Station) {
			letGo(s)
			s.State, s.Stamp, s.Top, s.Poll, s.Globs = impl.StHold, above, above, 0, []impl.Glob{{Addr: 5}}
		}), nil},
		{impl.Say{Kind: impl.SyToken, From: 8, To: 1, Stamp: above}, with(func(s *impl.Station) {
			letGo(s)
			s.Top, s.Known, s.Globs = above, []int64{5, 8}, []impl.Glob{{Addr: 5, Words: []int64{1}}, {Addr: 8}}
		}), nil},
		{impl.Say{Kind: impl.SyClaim, From: 5, Stamp: above}, with(func(s *impl.Station) { letGo(s); s.Top = above }), nil},
		{impl.Say{Kind: impl.SyHere, From: 5, To: 3, Stamp: above}, with(func(s *impl.Station) { letGo(s); s.Top = above }), nil},
	} {
		outIs(t, "Hear", base, impl.Hear(base, c.m), impl.StationOut{Station: c.want, Says: c.says})
	}
	// Who holds the stamp that is heard holds it on.
	holds := base
	holds.State, holds.Heir = impl.StHold, 0
	still := ownStation(holds)
	still.Quiet = 0
	outIs(t, "Hear", holds, impl.Hear(holds, impl.Say{Kind: impl.SyData, From: 5, To: 3, Stamp: top, Body: "x"}), impl.StationOut{Station: still})
}

func TestHearForm(t *testing.T) {
	form := impl.StationOut{Code: impl.ErrForm}
	var wrongSays []impl.Say
	for _, m := range edgeSays() {
		if !sayIsRight(m) && len(wrongSays) < 40000 {
			wrongSays = append(wrongSays, m)
		}
	}
	wrong := append(wrongStations(), stationOf(2, 5))
	for i, m := range wrongSays {
		for _, state := range allStates() {
			s := stationOf(2, state)
			outIs(t, "Hear of a wrong Say", s, impl.Hear(s, m), form)
		}
		s := wrong[i%len(wrong)]
		outIs(t, "Hear of a wrong Say", s, impl.Hear(s, m), form)
	}
	for _, s := range wrong {
		for _, m := range rightSays() {
			outIs(t, "Hear", s, impl.Hear(s, m), form)
		}
		outIs(t, "Hear", s, impl.Hear(s, impl.Say{Kind: impl.SyClaim, From: s.Addr, Stamp: impl.Stamp{Origin: 1}}), form)
	}
	for _, s := range rightStations() {
		for _, m := range rightSays() {
			outIs(t, "Hear", s, impl.Hear(s, m), hears(s, m))
		}
	}
}

func TestPublish(t *testing.T) {
	for _, words := range edgeWords() {
		for _, s := range edgeStations() {
			want := impl.StationOut{Code: impl.ErrForm}
			switch {
			case len(words) > 400:
				want.Code = impl.ErrSize
			case stationIsRight(s) && wordsAreRight(words):
				want = impl.StationOut{Station: ownStation(s)}
				want.Station.Words = words
			}
			outIs(t, "Publish", s, impl.Publish(s, words), want)
		}
	}
}

func TestQueue(t *testing.T) {
	for _, body := range edgeBodies() {
		for _, s := range edgeStations() {
			want := impl.StationOut{Code: impl.ErrForm}
			switch {
			case len(body) > 8000:
				want.Code = impl.ErrSize
			case !stationIsRight(s) || !within(int64(len(body)), 1, 20):
			case len(s.Out) == 3:
				want.Code = impl.ErrFull
			default:
				want = impl.StationOut{Station: ownStation(s)}
				want.Station.Out = append(want.Station.Out, body)
			}
			outIs(t, "Queue", s, impl.Queue(s, body), want)
		}
	}
	s := impl.StationNew(2, 0).Station
	for i, body := range []string{"one", "two", "three"} {
		s = impl.Queue(s, body).Station
		if len(s.Out) != i+1 || s.Out[i] != body || s.Out[0] != "one" {
			t.Errorf("behind %q it is %v", body, s.Out)
		}
	}
	outIs(t, "Queue", s, impl.Queue(s, "four"), impl.StationOut{Code: impl.ErrFull})
	outIs(t, "Queue", s, impl.Queue(s, ""), impl.StationOut{Code: impl.ErrForm})
	outIs(t, "Queue", s, impl.Queue(s, manyBytes(21)), impl.StationOut{Code: impl.ErrForm})
	outIs(t, "Queue", s, impl.Queue(s, strings.Repeat("x", impl.MaxBytes+1)), impl.StationOut{Code: impl.ErrSize})
}

func TestGlobalOf(t *testing.T) {
	for _, s := range edgeStations() {
		for _, addr := range append(edgeAddresses(), 3, 4, 5) {
			var want []int64
			for _, g := range s.Globs {
				if g.Addr == addr && stationIsRight(s) {
					want = g.Words
				}
			}
			if got := impl.GlobalOf(s, addr); !sameNums(got, want) {
				t.Fatalf("GlobalOf(%.600v, %d) = %v, want %v", s, addr, got, want)
			}
		}
	}
	s := impl.Station{Addr: 2, Words: []int64{6}, Globs: []impl.Glob{{Addr: 1, Words: []int64{7}}, {Addr: 3}, {Addr: 8, Words: []int64{8, 9}}}}
	for addr, want := range map[int64][]int64{0: nil, 1: {7}, 2: nil, 3: nil, 4: nil, 8: {8, 9}, 9: nil} {
		if got := impl.GlobalOf(s, addr); !sameNums(got, want) {
			t.Errorf("GlobalOf(.., %d) = %v, want %v", addr, got, want)
		}
	}
	s.Poll = 9
	if got := impl.GlobalOf(s, 1); len(got) != 0 {
		t.Errorf("of a station that is not right GlobalOf = %v", got)
	}
}

// Two stations, from the first claim till each had the token, said by hand.
func TestTwoStations(t *testing.T) {
	one, two := impl.StationNew(1, 0).Station, impl.StationNew(2, 4).Station
	turn := func(s *impl.Station, other *impl.Station, want ...impl.Say) {
		t.Helper()
		out := outIs(t, "Turn", *s, impl.Turn(*s), turned(*s))
		*s = out.Station
		said := out.Says
		for i := 0; i < len(said); i++ {
			hearer := other
			if said[i].From == other.Addr {
				hearer = s
			}
			heard := impl.Hear(*hearer, said[i])
			*hearer = heard.Station
			said = append(said, heard.Says...)
		}
		if !slices.EqualFunc(said, want, sameSay) {
			t.Fatalf("said is %v, want %v", said, want)
		}
	}
	for range 3 {
		turn(&one, &two)
		turn(&two, &one)
	}
	first := impl.Stamp{Gen: 1, Origin: 1}
	turn(&one, &two, impl.Say{Kind: impl.SyClaim, From: 1, Stamp: first})
	turn(&two, &one)
	turn(&one, &two, impl.Say{Kind: impl.SyPoll, From: 1, To: 2, Stamp: first}, impl.Say{Kind: impl.SyHere, From: 2, To: 1})
	for a := int64(3); a <= 8; a++ {
		turn(&one, &two, impl.Say{Kind: impl.SyPoll, From: 1, To: a, Stamp: first})
	}
	one = impl.Publish(one, []int64{42, 43}).Station
	one = impl.Queue(one, "ahead").Station
	turn(&one, &two, impl.Say{Kind: impl.SyData, From: 1, To: 2, Stamp: first, Body: "ahead"})
	handed := impl.Stamp{Gen: 2, Origin: 1, Hop: 1}
	turn(&one, &two, impl.Say{Kind: impl.SyToken, From: 1, To: 2, Stamp: handed, Words: []int64{42, 43}})
	if one.State != impl.StPass || two.State != impl.StHold || two.Stamp != handed || !sameNums(impl.GlobalOf(two, 1), []int64{42, 43}) {
		t.Fatalf("handed on they are %v and %v", one, two)
	}
	turn(&two, &one, impl.Say{Kind: impl.SyPoll, From: 2, To: 3, Stamp: handed})
	if one.State != impl.StIdle || one.Top != handed {
		t.Fatalf("who hears its heir is %v", one)
	}
	for a := int64(4); a <= 8; a++ {
		turn(&two, &one, impl.Say{Kind: impl.SyPoll, From: 2, To: a, Stamp: handed})
	}
	handed = impl.Stamp{Gen: 3, Origin: 2, Boot: 4, Hop: 2}
	token := impl.Say{Kind: impl.SyToken, From: 2, To: 1, Stamp: handed}
	turn(&two, &one, token)
	if one.State != impl.StHold || one.Stamp != handed || two.State != impl.StPass || two.Heir != 1 {
		t.Fatalf("handed back they are %v and %v", one, two)
	}
	// The first one is gone: it is handed the token twice more, and is known no more then.
	gone := impl.Station{Addr: 1, State: impl.StHold, Stamp: handed, Top: handed}
	turn(&two, &gone, token)
	turn(&two, &gone, token)
	turn(&two, &gone)
	fresh := impl.Stamp{Gen: 4, Origin: 2, Boot: 4}
	if two.State != impl.StHold || two.Stamp != fresh || two.Top != fresh || len(two.Known) != 0 || two.Tries != 0 {
		t.Errorf("without its heir it is %v", two)
	}
}

// someSay is something that may come to a station: of a stamp about its Top, from whomever, to whomever.
func someSay(source *rand.Rand, s impl.Station) impl.Say {
	kind := 1 + source.Int63n(5)
	form, _ := formOf(kind)
	m := impl.Say{Kind: kind, From: 1 + source.Int63n(8), Stamp: s.Top}
	m.Stamp.Gen = max(0, m.Stamp.Gen+source.Int63n(4)-2)
	m.Stamp.Origin = min(8, max(1, m.Stamp.Origin+source.Int63n(3)-1))
	m.Stamp.Boot = source.Int63n(3)
	if source.Intn(3) == 0 {
		m.Stamp = s.Top
	}
	if form.to {
		m.To = m.From%8 + 1
		if source.Intn(2) == 0 && m.From != s.Addr {
			m.To = s.Addr
		}
	}
	if form.words {
		m.Words = listOf(source.Intn(5), source.Int63n(65536))
	}
	if form.body {
		m.Body = manyBytes(1 + source.Intn(20))
	}
	if form.none && source.Intn(2) == 0 {
		m.Stamp = impl.Stamp{}
	}
	return m
}

// Promise 7, of stations that went whatever way: from a new one on, with what comes at random.
func TestTopNeverFalls(t *testing.T) {
	source := rand.New(rand.NewSource(7))
	said, fell := map[int64]int{}, map[int64]int{}
	for range 400 {
		s := impl.StationNew(1+source.Int63n(8), source.Int63n(3)).Station
		greatest := impl.Stamp{}
		for range 200 {
			last, out := s, impl.StationOut{}
			switch choice := source.Intn(12); {
			case choice < 7:
				out = outIs(t, "Turn", s, impl.Turn(s), turned(s))
				for _, m := range out.Says {
					said[m.Kind]++
					if m.Stamp != out.Station.Top || m.From != s.Addr {
						t.Fatalf("%v says %v", s, m)
					}
				}
			case choice < 10:
				m := someSay(source, s)
				out = outIs(t, "Hear", s, impl.Hear(s, m), hears(s, m))
				if out.Code == impl.OK && m.From != s.Addr && rankOf(m.Stamp) > rankOf(greatest) {
					greatest = m.Stamp
				}
			case choice < 11:
				out = impl.Queue(s, manyBytes(1+source.Intn(20)))
			default:
				out = impl.Publish(s, listOf(source.Intn(5), source.Int63n(65536)))
			}
			if out.Code != impl.OK {
				continue
			}
			s = out.Station
			if rankOf(s.Stamp) > rankOf(greatest) {
				greatest = s.Stamp
			}
			if s.Top != greatest {
				t.Fatalf("the greatest is %v, but %v became %v", greatest, last, s)
			}
			if s.State != last.State {
				fell[last.State*10+s.State]++
			}
		}
	}
	for _, kind := range []int64{impl.SyClaim, impl.SyToken, impl.SyPoll, impl.SyData} {
		if said[kind] < 50 {
			t.Errorf("just %d of kind %d are said", said[kind], kind)
		}
	}
	if len(fell) < 5 {
		t.Errorf("the states went just %v", fell)
	}
}

// Promise 7, of all stations at the edges: what is Top is none that is less.
func TestTopNeverFallsAtTheEdges(t *testing.T) {
	for _, s := range append(rightStations(), hearers()...) {
		if !stationIsRight(s) {
			continue
		}
		outs := []impl.StationOut{impl.Turn(s), impl.Publish(s, []int64{1}), impl.Queue(s, "x")}
		for _, m := range append(rightSays(), heardSays(s)...) {
			if out := impl.Hear(s, m); out.Code == impl.OK {
				outs = append(outs, out)
				if m.From != s.Addr && impl.StampLess(out.Station.Top, m.Stamp) {
					t.Fatalf("%v hears %v, and has %v", s, m, out.Station.Top)
				}
			}
		}
		for _, out := range outs {
			if out.Code == impl.OK && (impl.StampLess(out.Station.Top, s.Top) || impl.StampLess(out.Station.Top, out.Station.Stamp)) {
				t.Fatalf("the Top of %v falls to %v", s, out.Station.Top)
			}
		}
	}
}

// Promise 8, at each try to hand the token on, with words that change between, for all who hear it.
func TestWhatIsToldIsKnown(t *testing.T) {
	all := [][]int64{nil, {0}, {65535}, {1, 2}, {3, 2, 1}, {9, 9, 9, 9}, {0, 65535, 0, 65535}}
	told := 0
	for addr := int64(1); addr <= 8; addr++ {
		for i, words := range all {
			s := stationOf(addr, impl.StHold)
			s.Out, s.Poll = nil, 8
			var hearing []impl.Station
			for other := int64(1); other <= 8; other++ {
				for _, state := range allStates() {
					if other != addr {
						hearing = append(hearing, impl.StationNew(other, 3).Station, stationOf(other, state))
					}
				}
			}
			for try := range 3 {
				published := all[(i+try)%len(all)]
				if try == 0 {
					published = words
				}
				out := impl.Turn(impl.Publish(s, published).Station)
				if len(out.Says) != 1 || out.Says[0].Kind != impl.SyToken {
					t.Fatalf("%v does not hand the token on, but says %v", s, out.Says)
				}
				s = out.Station
				for at, hearer := range hearing {
					hearing[at] = impl.Hear(hearer, out.Says[0]).Station
					if got := impl.GlobalOf(hearing[at], addr); !sameNums(got, published) || !sameNums(s.Words, published) {
						t.Fatalf("%d told %v, %v knows %v", addr, published, hearer, got)
					}
					told++
				}
			}
		}
	}
	if told < 1000 {
		t.Errorf("just %d were told", told)
	}
}

// pieces lays all number lists of a station into one list, with something behind each.
func pieces(s impl.Station) (impl.Station, []int64) {
	s = ownStation(s)
	whole := make([]int64, 0, 100)
	lay := func(l []int64) []int64 {
		from := len(whole)
		whole = append(append(whole, l...), 99)
		return whole[from : len(whole)-1]
	}
	s.Known, s.Words = lay(s.Known), lay(s.Words)
	for i := range s.Globs {
		s.Globs[i].Words = lay(s.Globs[i].Words)
	}
	globs := append(s.Globs, impl.Glob{Addr: 99}, impl.Glob{Addr: 99})
	s.Globs = globs[:len(globs)-2]
	out := make([]string, 0, 5)
	for _, body := range s.Out {
		out = append(out, strings.Clone(body))
	}
	s.Out = out
	return s, whole
}

// numLists are all lists of numbers in an answer.
func numLists(out impl.StationOut) [][]int64 {
	l := [][]int64{out.Station.Known, out.Station.Words}
	for _, g := range out.Station.Globs {
		l = append(l, g.Words)
	}
	for _, m := range out.Says {
		l = append(l, m.Words)
	}
	return l
}

func textsIn(out impl.StationOut) []string {
	l := append([]string{}, out.Station.Out...)
	for _, m := range out.Says {
		l = append(l, m.Body)
	}
	return l
}

// spoilNums writes over lists one by one, each of which must not change any that comes behind it.
func spoilNums(t *testing.T, out any, lists [][]int64) {
	t.Helper()
	for i, l := range lists {
		var kept [][]int64
		for _, other := range lists[i+1:] {
			kept = append(kept, append([]int64{}, other...))
		}
		spoil(l)
		for j, other := range lists[i+1:] {
			if !sameNums(other, kept[j]) {
				t.Fatalf("two lists of %v share memory", out)
			}
		}
	}
}

// spoilAll writes over all that an answer has in lists.
func spoilAll(t *testing.T, out impl.StationOut) {
	t.Helper()
	spoilNums(t, out, numLists(out))
	globs, says, texts := out.Station.Globs[:cap(out.Station.Globs)], out.Says, out.Station.Out[:cap(out.Station.Out)]
	for i := range globs {
		globs[i] = impl.Glob{Addr: 77}
	}
	for i := range says {
		says[i] = impl.Say{Kind: 77}
	}
	for i := range texts {
		texts[i] = "spoilt"
	}
}

// leavesAlone looks at one call: what is handed in stays as it is, what is answered has memory of its own.
func leavesAlone(t *testing.T, given impl.Station, words []int64, body string, call func(s impl.Station, words []int64) impl.StationOut) {
	t.Helper()
	s, whole := pieces(given)
	kept := append([]int64{}, whole...)
	words = append(append(make([]int64, 0, 10), words...), 55)[:len(words)]
	out, other := call(s, words), call(s, words)
	if out.Code != impl.OK {
		t.Fatalf("%v is refused: %v", given, out)
	}
	want := impl.StationOut{Station: ownStation(other.Station), Says: append([]impl.Say{}, other.Says...)}
	for i := range want.Says {
		want.Says[i].Words = append([]int64{}, want.Says[i].Words...)
	}
	for _, text := range textsIn(out) {
		for _, in := range append(s.Out, body) {
			if sharesText(text, in) {
				t.Fatalf("%q in %v is handed in", text, out)
			}
		}
	}
	wordsKept := append([]int64{}, words...)
	spoilAll(t, out)
	behind := s.Globs[:len(s.Globs)+2]
	if !sameStation(s, given) || !slices.Equal(whole, kept) || !sameNums(words, wordsKept) || words[:len(words)+1][len(words)] != 55 || behind[len(s.Globs)].Addr != 99 {
		t.Fatalf("%v is changed to %v, or %v to %v", given, s, wordsKept, words)
	}
	if !sameStationOut(other, want) {
		t.Fatalf("two answers of %v share memory", given)
	}
}

func TestStationMemory(t *testing.T) {
	body := strings.Clone(manyBytes(20))
	for _, state := range allStates() {
		for _, quiet := range []int64{0, 9} {
			for _, tries := range []int64{1, 3} {
				for _, out := range [][]string{nil, {"one"}, {"one", "two"}} {
					for _, poll := range []int64{0, 8} {
						s := stationOf(4, state)
						s.Quiet, s.Tries, s.Out, s.Poll = quiet, tries, out, poll
						leavesAlone(t, s, nil, "", func(s impl.Station, words []int64) impl.StationOut { return impl.Turn(s) })
						leavesAlone(t, s, []int64{3, 4}, "", impl.Publish)
						leavesAlone(t, s, nil, body, func(s impl.Station, words []int64) impl.StationOut { return impl.Queue(s, body) })
						for _, m := range heardSays(s) {
							if sayIsRight(m) {
								leavesAlone(t, s, m.Words, m.Body, func(s impl.Station, words []int64) impl.StationOut {
									m.Words = words
									return impl.Hear(s, m)
								})
							}
						}
					}
				}
			}
		}
	}
}

func TestGlobalOfMemory(t *testing.T) {
	s := impl.Station{Addr: 1, Globs: []impl.Glob{{Addr: 2, Words: []int64{7, 8}}}}
	first, second := impl.GlobalOf(s, 2), impl.GlobalOf(s, 2)
	spoil(first)
	if !sameNums(second, []int64{7, 8}) || !sameNums(s.Globs[0].Words, []int64{7, 8}) {
		t.Error("what GlobalOf answers shares memory")
	}
}

// numberFrom takes numbers out of bytes, one behind the other; 0 behind the last one.
func numberFrom(text string) func(most int64) int64 {
	return func(most int64) int64 {
		if text == "" {
			return 0
		}
		n := int64(text[0])
		text = text[1:]
		if n >= 250 {
			return []int64{-1, impl.MaxTime - 1, impl.MaxTime, impl.MaxTime + 1, math.MinInt64, math.MaxInt64}[n-250]
		}
		return n % (most + 1)
	}
}

func FuzzStation(f *testing.F) {
	for addr := int64(1); addr <= 8; addr++ {
		for _, state := range allStates() {
			s := stationOf(addr, state)
			nums := []byte{byte(addr), 1, byte(state), 3, 4, 1, 2, byte(addr) + 2, byte(addr) % 5, byte(s.Heir), 7, 1}
			if state != impl.StIdle {
				nums[len(nums)-1] = 0
			}
			low, high := byte(s.Known[0]), byte(s.Known[1])
			lists := []byte{2, low, high, 3, 5, 6, 7, 2, low, high, 1, 8, 0, 2, 4, 20}
			for kind := byte(1); kind <= 5; kind++ {
				for _, to := range []byte{0, byte(addr), high} {
					f.Add(string(nums), string(lists), string([]byte{kind, low, to, 3, 4, 1, 2}), manyBytes(20))
				}
			}
		}
	}
	f.Fuzz(func(t *testing.T, nums string, lists string, said string, body string) {
		next := numberFrom(nums)
		stamp := func() impl.Stamp { return impl.Stamp{Gen: next(3), Origin: next(8), Boot: next(2), Hop: next(2)} }
		s := impl.Station{Addr: next(9), Boot: next(9), State: next(3), Top: stamp(), Quiet: next(12), Tries: next(5), Heir: next(9), Poll: next(9)}
		if next(2) == 0 {
			s.Stamp = s.Top
		} else {
			s.Stamp = stamp()
		}
		next = numberFrom(lists)
		some := func(most int64) []int64 {
			var l []int64
			for range min(next(most), most) {
				l = append(l, next(8))
			}
			return l
		}
		s.Known, s.Words = some(7), some(5)
		for _, a := range some(3) {
			s.Globs = append(s.Globs, impl.Glob{Addr: a, Words: some(2)})
		}
		for range min(next(4), 4) {
			s.Out = append(s.Out, body[:min(int64(len(body)), max(0, next(21)))])
		}
		next = numberFrom(said)
		m := impl.Say{Kind: next(6), From: next(9), To: next(9), Stamp: stamp(), Words: some(5)}
		if m.Kind == impl.SyData {
			m.Body = body
		}
		if got := impl.StationRight(s); got != stationIsRight(s) {
			t.Fatalf("StationRight(%v) = %v", s, got)
		}
		kept := ownStation(s)
		outIs(t, "Turn", s, impl.Turn(s), turned(s))
		outIs(t, "Hear", s, impl.Hear(s, m), hears(s, m))
		if !sameStation(s, kept) {
			t.Fatalf("%v is changed to %v", kept, s)
		}
	})
}
