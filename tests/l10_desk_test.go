package tests

import (
	"math/rand"
	"regexp"
	"slices"
	"strconv"
	"strings"
	"testing"

	"loop.example/g00556/impl"
)

// deskLine is the form of a line of a desk, in the document's words.
var deskLine = regexp.MustCompile(`^(?:` + strings.ReplaceAll(`(?:round|down|up|lose|get) N|(?:turn|words|global|set) N N|holds|got|say N [^ \n]+`, "N", "(?:0|[1-9][0-9]{0,8})") + `)\n$`)

// deskFaultOf is what DeskFault must answer.
func deskFaultOf(text string) impl.DeskOut {
	if len(text) > 8000 {
		return impl.DeskOut{Code: 2}
	}
	for i, line := range strings.SplitAfter(text, "\n") {
		if line != "" && (i >= 40 || !deskLine.MatchString(line)) {
			return impl.DeskOut{Line: int64(i), Code: 3}
		}
	}
	return impl.DeskOut{}
}

// deskModel is a desk in the document's words.
type deskModel struct {
	segment impl.Segment
	master  impl.Master
	slave   impl.Slave
	lose    int64
}

func newDeskModel() *deskModel {
	return &deskModel{
		segment: impl.Segment{Stations: []impl.Station{{Addr: 1}, {Addr: 2}, {Addr: 3}}, Up: []bool{true, true, true}},
		master:  impl.Master{Next: 1},
		slave:   impl.Slave{Table: impl.Table{Coils: make([]int64, 8), Regs: make([]int64, 8)}},
	}
}

func errorText(code int64) string {
	return "error " + strconv.FormatInt(code, 10)
}

func orDash(items []string, between string) string {
	if len(items) == 0 {
		return "-"
	}
	return strings.Join(items, between)
}

func numTexts(nums []int64) []string {
	var l []string
	for _, n := range nums {
		l = append(l, strconv.FormatInt(n, 10))
	}
	return l
}

// segmentTold takes what the segment came to, and is what is told then.
func (d *deskModel) segmentTold(out impl.SegmentOut, good string) string {
	if out.Code != 0 {
		return errorText(out.Code)
	}
	d.segment = out.Segment
	return good
}

// getsLost tells whether a letter that is on its way now gets lost.
func (d *deskModel) getsLost() bool {
	isLost := d.lose > 0
	if isLost {
		d.lose--
	}
	return isLost
}

// question is what a question comes to: what is told, or the answer to it, if that is good.
func (d *deskModel) question(a impl.Ask) (string, string) {
	if !askIsRight(a) {
		return "error 1", ""
	}
	out := issued(d.master, askBytesOf(a))
	if out.Code != 0 {
		return errorText(out.Code), ""
	}
	for {
		d.master = out.Master
		for _, text := range out.Sent {
			if d.getsLost() {
				continue
			}
			done := slaveTaken(d.slave, text)
			d.slave = done.Slave
			if !d.getsLost() {
				d.master = taken(d.master, done.Answer).Master
			}
		}
		if len(d.master.Done) > 0 {
			break
		}
		out = ticked(d.master)
	}
	answer := d.master.Done[0].Answer
	d.master.Done = nil
	switch {
	case answer == "":
		return "none", ""
	case answer[0] >= 128:
		return "exception " + strconv.Itoa(int(answer[1])), ""
	}
	return "ok", answer
}

// does is what a right line tells.
func (d *deskModel) does(line string) string {
	words := append(strings.Split(line, " "), "", "")
	n, _ := strconv.ParseInt(words[1], 10, 64)
	m, _ := strconv.ParseInt(words[2], 10, 64)
	switch words[0] {
	case "round":
		return d.segmentTold(segRounded(d.segment, n), "ok")
	case "turn":
		out := segTurned(d.segment, n, m)
		return d.segmentTold(out, strconv.Itoa(len(out.Says)))
	case "down":
		return d.segmentTold(segDowned(d.segment, n), "ok")
	case "up":
		return d.segmentTold(segUpped(d.segment, n), "ok")
	case "say":
		return d.segmentTold(segQueued(d.segment, n, words[2]), "ok")
	case "words":
		return d.segmentTold(segPublished(d.segment, n, []int64{m}), "ok")
	case "holds":
		return orDash(numTexts(holdersIn(d.segment)), ",")
	case "global":
		return d.global(n, m)
	case "got":
		return d.got()
	case "lose":
		d.lose = n
		return "ok"
	case "set":
		told, _ := d.question(impl.Ask{Fc: 6, At: n, Many: 1, Values: []int64{m}})
		return told
	}
	told, answer := d.question(impl.Ask{Fc: 3, At: n, Many: 1})
	if answer != "" {
		told = strconv.Itoa(int(answer[2])*256 + int(answer[3]))
	}
	return told
}

func (d *deskModel) global(of int64, addr int64) string {
	for _, station := range d.segment.Stations {
		if station.Addr != of {
			continue
		}
		for _, g := range station.Globs {
			if g.Addr == addr {
				return orDash(numTexts(g.Words), ",")
			}
		}
		return "-"
	}
	return "error 6"
}

func (d *deskModel) got() string {
	var notes []string
	for _, n := range d.segment.Got {
		notes = append(notes, strconv.FormatInt(n.From, 10)+">"+strconv.FormatInt(n.To, 10)+":"+n.Body)
	}
	return orDash(notes, ";")
}

// deskRunOf is what DeskRun must answer.
func deskRunOf(text string) impl.DeskOut {
	if fault := deskFaultOf(text); fault.Code != 0 {
		return fault
	}
	d := newDeskModel()
	told := ""
	for line := range strings.Lines(text) {
		told += d.does(strings.TrimSuffix(line, "\n")) + "\n"
	}
	return impl.DeskOut{Text: told}
}

// deskIs looks at one text, run twice, as nothing is kept, and at what its faults are.
func deskIs(t *testing.T, text string, want impl.DeskOut) {
	t.Helper()
	for range 2 {
		if got := impl.DeskRun(text); got != want {
			t.Fatalf("DeskRun(%.3000q)\n got %.3000q %d %d\nwant %.3000q %d %d", text, got.Text, got.Line, got.Code, want.Text, want.Line, want.Code)
		}
	}
	want.Text = ""
	if got := impl.DeskFault(text); got != want {
		t.Fatalf("DeskFault(%.3000q) = %v, want %v", text, got, want)
	}
}

// deskTells is deskIs of lines, and what each of them tells, with | between.
func deskTells(t *testing.T, lines string, want string) {
	t.Helper()
	text, told := strings.ReplaceAll(lines, "|", "\n")+"\n", strings.ReplaceAll(want, "|", "\n")+"\n"
	if model := deskRunOf(text).Text; model != told {
		t.Fatalf("the document's words tell %q of %q, not %q", model, text, told)
	}
	deskIs(t, text, impl.DeskOut{Text: told})
}

// deskFails is deskIs of a text that is wrong at that line.
func deskFails(t *testing.T, text string, line int64) {
	t.Helper()
	deskIs(t, text, impl.DeskOut{Line: line, Code: impl.ErrSyntax})
}

// oneOfEach are right lines, one of each word.
func oneOfEach() []string {
	return []string{"round 4", "turn 1 0", "down 1", "up 1", "holds", "say 2 x", "words 2 5", "global 1 2", "got", "lose 2", "set 2 7", "get 2"}
}

func TestDeskConstants(t *testing.T) {
	if impl.MaxDesk != 40 {
		t.Errorf("MaxDesk is %d", impl.MaxDesk)
	}
}

func TestDeskSegment(t *testing.T) {
	want := impl.SegmentNew([]int64{1, 2, 3}).Segment
	first, second := impl.DeskSegment(), impl.DeskSegment()
	if !sameSegment(first, want) || !sameSegment(first, newDeskModel().segment) || !segmentIsRight(first) {
		t.Fatalf("DeskSegment is %v", first)
	}
	spoilSegment(t, impl.SegmentOut{Segment: first})
	if !sameSegment(second, want) || !sameSegment(impl.DeskSegment(), want) {
		t.Errorf("two answers of DeskSegment share memory: %v", second)
	}
}

func TestDeskWords(t *testing.T) {
	want := []string{"down", "get", "global", "got", "holds", "lose", "round", "say", "set", "turn", "up", "words"}
	first, second := impl.DeskWords(), impl.DeskWords()
	if !slices.Equal(first, want) {
		t.Fatalf("DeskWords are %q", first)
	}
	for i := 1; i < len(first); i++ {
		if first[i] <= first[i-1] {
			t.Errorf("DeskWords do not rise at %q", first[i])
		}
	}
	spoilTexts(first)
	if !slices.Equal(second, want) || !slices.Equal(impl.DeskWords(), want) {
		t.Errorf("two answers of DeskWords share memory: %q", second)
	}
	var words []string
	for _, line := range oneOfEach() {
		words = append(words, strings.Split(line, " ")[0])
	}
	slices.Sort(words)
	if !slices.Equal(words, want) {
		t.Errorf("lines begin with %q", words)
	}
}

func TestDeskOfNothing(t *testing.T) {
	deskIs(t, "", impl.DeskOut{})
	deskFails(t, "\n", 0)
	deskFails(t, " ", 0)
	deskFails(t, "got\n\n", 1)
	deskFails(t, "\ngot\n", 0)
	deskFails(t, "got\n\ngot\n", 1)
}

// Each line by itself: it is right with its line feed alone.
func TestDeskLineFeed(t *testing.T) {
	for _, line := range oneOfEach() {
		if out := impl.DeskRun(line + "\n"); out.Code != impl.OK || strings.Count(out.Text, "\n") != 1 || !strings.HasSuffix(out.Text, "\n") {
			t.Errorf("DeskRun of %q alone: %v", line, out)
		}
		deskFails(t, line, 0)
		deskFails(t, "got\n"+line, 1)
		deskFails(t, line+"\r", 0)
		deskFails(t, line+"\n\r", 1)
		deskFails(t, line+"\x00", 0)
		deskFails(t, "got\n"+line+"\n"+line+"\nholds", 3)
	}
	for _, line := range oneOfEach() {
		if !strings.HasPrefix(line, "say") {
			deskFails(t, line+"\r\n", 0)
			deskFails(t, "got\n"+line+"\r\ngot\n", 1)
		}
	}
	// Of a TEXT the carriage return is a byte of it.
	deskTells(t, "say 2 x\r|round 60|got", "ok|ok|2>3:x\r")
}

func TestDeskManyLines(t *testing.T) {
	for _, line := range oneOfEach() {
		for many := range 44 {
			text := strings.Repeat(line+"\n", many)
			if many > 40 {
				deskFails(t, text, 40)
			} else {
				deskIs(t, text, deskRunOf(text))
			}
		}
		full := strings.Repeat(line+"\n", 40)
		for _, more := range []string{"x\n", "\n", "x", "got", " ", "got\nx\n", "got\n\n", "got\nx", "got\ngot"} {
			deskFails(t, full+more, 40)
		}
		for at := range 40 {
			text := strings.Repeat(line+"\n", at) + "x\n" + strings.Repeat(line+"\n", 42-at)
			deskFails(t, text, int64(at))
		}
		deskFails(t, strings.Repeat(line+"\n", 39)+line, 39)
		deskFails(t, strings.Repeat(line+"\n", 39)+"x\n"+line+"\n", 39)
		deskFails(t, strings.Repeat(line+"\n", 39)+"\n", 39)
	}
}

func TestDeskSizes(t *testing.T) {
	long := "say 1 " + strings.Repeat("x", 7993) + "\n"
	deskIs(t, long, impl.DeskOut{Text: "error 1\n"})
	deskIs(t, "got\n"+long[:6]+long[10:], impl.DeskOut{Text: "-\nerror 1\n"})
	deskFails(t, "x"+long[1:], 0)
	deskFails(t, long[:7999]+"x", 0)
	deskFails(t, strings.Repeat(" ", 8000), 0)
	deskFails(t, strings.Repeat("\n", 8000), 0)
	deskFails(t, "got\n"+strings.Repeat("9", 7996), 1)
	for _, text := range []string{long[:6] + "x" + long[6:], long + "\n", long + "x", "x" + long, strings.Repeat("x", 8001), strings.Repeat("got\n", 2001), strings.Repeat("\n", 8001), manyBytes(9000), "x\n" + long} {
		deskIs(t, text, impl.DeskOut{Code: impl.ErrSize})
	}
}

func TestDeskBlanks(t *testing.T) {
	for _, line := range oneOfEach() {
		wrong := []string{" " + line, line + " ", "  " + line, line + "  ", line + " x", line + " 1", line + " 1 1", "\t" + line, line + "\t\x01 ", "x" + line, "1 " + line, line + " " + line}
		for at := range len(line) {
			if line[at] == ' ' {
				wrong = append(wrong, line[:at]+" "+line[at:], line[:at], line[:at+1], line[:at]+"\t"+line[at+1:], line[:at]+line[at+1:], line[:at]+"\n"+line[at+1:], line[:at]+"\xa0"+line[at+1:])
			}
		}
		for _, l := range wrong {
			deskFails(t, l+"\n", 0)
			deskFails(t, "got\n"+l+"\nx\n", 1)
		}
	}
}

func TestDeskOtherWords(t *testing.T) {
	for _, line := range oneOfEach() {
		word, rest, _ := strings.Cut(line, " ")
		if rest != "" {
			rest = " " + rest
		}
		for _, other := range []string{"", strings.ToUpper(word), strings.ToUpper(word[:1]) + word[1:], word[:len(word)-1], word[1:], word + "s", word + word, word + "\x00", "x", "ok", "error", "help", "-", "0", "1", "N", "\xff", word + "\xff"} {
			deskFails(t, other+rest+"\n", 0)
			deskFails(t, "holds\ngot\n"+other+rest+"\n", 2)
		}
	}
	// Each word with the words of another one.
	for _, a := range oneOfEach() {
		for _, b := range oneOfEach() {
			text := strings.Split(a, " ")[0] + strings.TrimPrefix(b, strings.Split(b, " ")[0]) + "\n"
			deskIs(t, text, deskRunOf(text))
		}
	}
	deskFails(t, "global 1 x\n", 0)
	deskFails(t, "set 1 say\n", 0)
	deskFails(t, "turn x 0\n", 0)
	deskFails(t, "say x 1\n", 0)
	deskTells(t, "say 2 round|say 2 7|say 2 -|round 60|got", "ok|ok|ok|ok|2>3:round;2>3:7;2>3:-")
}

// wrongNs are words that are no N.
func wrongNs() []string {
	return []string{
		"", "00", "01", "007", "000000000", "0000000001", "0123456789", "1000000000", "9999999999", "18446744073709551617", strings.Repeat("9", 400), "-1", "+1", "-0", "+0", "1-", "a", "1a", "a1", "0x1", "1e3", "1.0", "1,0", "1_0", "N", "/", ":", "0:", "0/", "٣", "\xb2", "1\xff", "1\x00", "1\r", "\t1", "''",
	}
}

func TestDeskNumbers(t *testing.T) {
	for _, line := range oneOfEach() {
		words := strings.Split(line, " ")
		for at := 1; at < len(words); at++ {
			if words[0] == "say" && at == 2 {
				continue
			}
			with := func(n string) string {
				changed := slices.Clone(words)
				changed[at] = n
				return strings.Join(changed, " ") + "\n"
			}
			for _, n := range wrongNs() {
				deskFails(t, with(n), 0)
				deskFails(t, "got\n"+line+"\n"+with(n)+with("00"), 2)
			}
			for _, n := range []string{"0", "1", "9", "10", "100", "65535", "65536", "999999999", "100000000"} {
				deskIs(t, with(n), deskRunOf(with(n)))
				if impl.DeskFault(with(n)).Code != impl.OK {
					t.Fatalf("%q is refused", with(n))
				}
			}
		}
	}
}

func TestDeskTexts(t *testing.T) {
	for _, text := range []string{"x", "0", "00", "-", ";", ">", ":", "1>2:x;3>1:y", "ok", "\x00", "\x80", "\xff", "\r", "\t", "\v", "é", "\u00a0", "\u2028", "\xe2\x80", strings.Repeat("x", 20), strings.Repeat("\xff", 20), strings.Repeat("\xe9", 19)} {
		deskTells(t, "say 2 "+text+"|round 60|got", "ok|ok|2>3:"+text)
	}
	for _, text := range []string{strings.Repeat("x", 21), strings.Repeat("\xff", 21), strings.Repeat("é", 11), strings.Repeat("x", 7000)} {
		deskTells(t, "say 2 "+text+"|round 60|got", "error 1|ok|-")
	}
	for _, line := range []string{"say 2 ", "say 2", "say 2  x", "say 2 x y", "say 2 x ", "say  2 x", "say x", "say 2 \n", "say 2 x\n\n", "say"} {
		text := line + "\n"
		fault := deskFaultOf(text)
		if fault.Code != impl.ErrSyntax {
			t.Fatalf("%q is right", text)
		}
		deskIs(t, text, fault)
	}
	// All bytes that may be in a TEXT, one by one.
	for b := range 256 {
		if b == ' ' || b == '\n' {
			continue
		}
		text := "say 3 " + string([]byte{byte(b)}) + "\nround 60\ngot\n"
		deskIs(t, text, impl.DeskOut{Text: "ok\nok\n3>1:" + string([]byte{byte(b)}) + "\n"})
	}
}

// Of several faults the first line is told, whatever they are; beside a code no line tells anything.
func TestDeskFirstFault(t *testing.T) {
	faults := []string{"x\n", "\n", " got\n", "got \n", "round\n", "round 00\n", "round 1 1\n", "say 1\n", "GOT\n", "set 1\n"}
	for _, a := range faults {
		for _, b := range faults {
			for ahead := range 4 {
				for between := range 3 {
					text := strings.Repeat("round 4\nholds\n", ahead) + a + strings.Repeat("got\n", between) + b + "holds"
					deskFails(t, text, int64(2*ahead))
				}
			}
		}
		deskFails(t, "set 1 7\nget 1\nholds\n"+a, 3)
		deskFails(t, "round 61\ndown 9\n"+a, 2)
		deskFails(t, "got\nholds\n"+a+"got", 2)
	}
	// What is told of a line is no fault of the text.
	deskTells(t, "round 61|turn 9 0|get 65536|get 8", "error 1|error 6|error 1|exception 2")
}

// toldTwice is deskTells on a new desk, and behind sixty rounds.
func toldTwice(t *testing.T, lines string, fresh string, gone string) {
	t.Helper()
	deskTells(t, lines, fresh)
	deskTells(t, "round 60|"+lines, "ok|"+gone)
}

func TestDeskRoundAndHolds(t *testing.T) {
	toldTwice(t, "round 0|holds", "ok|-", "ok|2")
	toldTwice(t, "round 60|holds", "ok|2", "ok|1")
	toldTwice(t, "round 61|holds", "error 1|-", "error 1|2")
	toldTwice(t, "round 999999999|round 100|holds", "error 1|error 1|-", "error 1|error 1|2")
	toldTwice(t, "round 1|round 1|round 1|holds|round 1|holds", "ok|ok|ok|-|ok|1", "ok|ok|ok|2|ok|2")
	toldTwice(t, "holds|holds", "-|-", "2|2")
	toldTwice(t, "down 1|down 2|down 3|round 60|holds", "ok|ok|ok|ok|-", "ok|ok|ok|ok|-")
}

func TestDeskTurn(t *testing.T) {
	// Who is idle says nothing; who comes to claim says that alone.
	toldTwice(t, "turn 3 0|turn 3 15|turn 3 16|turn 3 999999999", "0|0|error 1|error 1", "0|0|error 1|error 1")
	deskTells(t, "turn 1 0|turn 1 0|turn 1 0|holds|turn 1 0|holds", "0|0|0|-|1|1")
	toldTwice(t, "turn 0 0|turn 4 0|turn 9 0|turn 999999999 15|turn 9 16", "error 6|error 6|error 6|error 6|error 6", "error 6|error 6|error 6|error 6|error 6")
	toldTwice(t, "down 2|turn 2 0|turn 2 15|turn 2 16|up 2|turn 2 0", "ok|error 10|error 10|error 1|ok|0", "ok|error 10|error 10|error 1|ok|0")
	// 1 claims, then polls 2, 3, 4 and on: who is there answers, if it hears that.
	deskTells(t, "round 4|turn 1 0|turn 1 0|turn 1 0", "ok|2|2|1")
	deskTells(t, "round 4|turn 1 15|turn 1 0", "ok|1|2")
	deskTells(t, "round 4|turn 1 2|turn 1 0", "ok|1|2")
	deskTells(t, "round 4|turn 1 4|turn 1 4|turn 1 4", "ok|2|1|1")
	deskTells(t, "round 4|turn 1 1|turn 1 8", "ok|2|2")
	// Who is told a code has its turn all the same later.
	deskTells(t, "round 4|turn 1 16|turn 9 0|turn 1 0|holds", "ok|error 1|error 6|2|1")
	// Two claim, as neither hears the other; the greater stamp is that of the greater address.
	deskTells(t, "round 3|turn 1 15|holds|round 1|holds|round 1|holds|round 1|holds", "ok|1|1|ok|1|ok|1|ok|1")
	deskTells(t, "round 3|down 1|round 1|turn 2 15|holds|turn 3 15|holds|turn 3 15|holds|turn 2 0|holds|turn 3 0|holds", "ok|ok|ok|1|2|0|2|1|2,3|1|2,3|1|3")
}

func TestDeskDownAndUp(t *testing.T) {
	for _, n := range []string{"1", "2", "3"} {
		toldTwice(t, "up "+n+"|down "+n+"|down "+n+"|up "+n+"|up "+n, "error 10|ok|error 10|ok|error 10", "error 10|ok|error 10|ok|error 10")
	}
	for _, n := range []string{"0", "4", "8", "9", "999999999"} {
		toldTwice(t, "up "+n+"|down "+n+"|holds", "error 6|error 6|-", "error 6|error 6|2")
	}
	// Who comes up again knows nothing of what it was.
	toldTwice(t, "say 1 a|words 1 7|round 60|global 1 2|down 1|up 1|global 1 2|say 1 a|say 1 b|say 1 c|say 1 d", "ok|ok|ok|-|ok|ok|-|ok|ok|ok|error 9", "ok|ok|ok|-|ok|ok|-|ok|ok|ok|error 9")
	deskTells(t, "words 2 22|round 60|global 1 2|down 1|global 1 2|up 1|global 1 2|round 60|global 1 2", "ok|ok|22|ok|22|ok|-|ok|22")
	deskTells(t, "words 2 22|round 60|global 1 2|down 2|up 2|round 60|global 1 2", "ok|ok|22|ok|ok|ok|-")
}

func TestDeskSay(t *testing.T) {
	toldTwice(t, "say 1 a|say 1 b|say 1 c|say 1 d|say 2 d", "ok|ok|ok|error 9|ok", "ok|ok|ok|error 9|ok")
	toldTwice(t, "down 3|say 3 a|say 3 "+strings.Repeat("x", 21)+"|up 3|say 3 a", "ok|error 10|error 10|ok|ok", "ok|error 10|error 10|ok|ok")
	toldTwice(t, "say 0 a|say 4 a|say 9 "+strings.Repeat("x", 21), "error 6|error 6|error 6", "error 6|error 6|error 6")
	toldTwice(t, "say 1 a|say 1 b|say 1 c|say 1 "+strings.Repeat("x", 21), "ok|ok|ok|error 1", "ok|ok|ok|error 1")
	// 1 holds first, and knows nobody then: what it says goes to none.
	toldTwice(t, "say 1 a|round 60|got", "ok|ok|-", "ok|ok|1>2:a")
	deskTells(t, "round 60|say 1 a|round 60|say 1 b|say 1 c|say 1 d|say 1 e|round 60|got", "ok|ok|ok|ok|ok|ok|error 9|ok|1>2:a;1>2:b;1>2:c;1>2:d")
}

func TestDeskGot(t *testing.T) {
	toldTwice(t, "got|got", "-|-", "-|-")
	toldTwice(t, "say 3 c|say 2 b|say 3 d|round 60|got|got", "ok|ok|ok|ok|2>3:b;3>1:c;3>1:d|2>3:b;3>1:c;3>1:d", "ok|ok|ok|ok|2>3:b;3>1:c;3>1:d|2>3:b;3>1:c;3>1:d")
	// Notes stay, whoever goes down; of more than twenty the first ones go.
	deskTells(t, "say 2 b|round 60|down 3|down 2|got|up 2|got", "ok|ok|ok|ok|2>3:b|ok|2>3:b")
	lines, told := "round 60", "ok"
	var notes []string
	for i := range 8 {
		for j := range 3 {
			text := string(rune('a'+i)) + string(rune('0'+j))
			lines, told, notes = lines+"|say 2 "+text, told+"|ok", append(notes, "2>3:"+text)
		}
		lines, told = lines+"|round 60", told+"|ok"
	}
	deskTells(t, lines+"|got", told+"|"+strings.Join(notes[4:], ";"))
}

func TestDeskWordsLine(t *testing.T) {
	for _, n := range []string{"0", "1", "65535"} {
		toldTwice(t, "words 1 "+n+"|round 60|global 2 1|global 3 1", "ok|ok|"+n+"|"+n, "ok|ok|"+n+"|"+n)
	}
	toldTwice(t, "words 1 65536|words 1 999999999|round 60|global 2 1", "error 1|error 1|ok|-", "error 1|error 1|ok|-")
	toldTwice(t, "words 1 7|words 1 65536|words 1 8|round 60|global 2 1|words 1 9|global 2 1|round 60|global 2 1", "ok|error 1|ok|ok|8|ok|8|ok|9", "ok|error 1|ok|ok|8|ok|8|ok|9")
	toldTwice(t, "words 0 1|words 4 1|words 9 65536", "error 6|error 6|error 6", "error 6|error 6|error 6")
	toldTwice(t, "down 1|words 1 7|words 1 65536|up 1|round 60|global 2 1", "ok|error 10|error 10|ok|ok|-", "ok|error 10|error 10|ok|ok|-")
}

func TestDeskGlobal(t *testing.T) {
	toldTwice(t, "global 1 2|global 1 1|global 1 0|global 1 4|global 1 9|global 1 999999999", "-|-|-|-|-|-", "-|-|-|-|-|-")
	toldTwice(t, "global 0 1|global 4 1|global 8 1|global 9 1|global 999999999 1", "error 6|error 6|error 6|error 6|error 6", "error 6|error 6|error 6|error 6|error 6")
	toldTwice(t, "words 1 11|words 2 22|words 3 33|round 60|global 1 1|global 1 2|global 1 3|global 2 1|global 2 2|global 2 3|global 3 1|global 3 2|global 3 3|global 3 4", "ok|ok|ok|ok|-|22|33|11|-|33|11|22|-|-", "ok|ok|ok|ok|-|22|33|11|-|33|11|22|-|-")
	// Who is down is there, and knows what it knew.
	toldTwice(t, "words 1 11|round 60|down 2|words 1 12|round 60|global 2 1|global 3 1|global 1 2", "ok|ok|ok|ok|ok|11|12|-", "ok|ok|ok|ok|ok|11|12|-")
}

// A question is lost up to three times; what is left of the letters that get lost waits for the next one.
func TestDeskLose(t *testing.T) {
	toldTwice(t, "lose 0|set 2 7|get 2", "ok|ok|7", "ok|ok|7")
	toldTwice(t, "lose 1|set 2 7|get 2", "ok|ok|7", "ok|ok|7")
	toldTwice(t, "lose 2|set 2 7|get 2", "ok|ok|7", "ok|ok|7")
	toldTwice(t, "lose 3|set 2 7|get 2", "ok|none|0", "ok|none|0")
	toldTwice(t, "lose 4|set 2 7|get 2", "ok|none|0", "ok|none|0")
	toldTwice(t, "lose 5|set 2 7|set 2 8|get 2", "ok|none|ok|8", "ok|none|ok|8")
	toldTwice(t, "lose 6|set 2 7|set 2 8|get 2", "ok|none|none|0", "ok|none|none|0")
	toldTwice(t, "lose 7|set 2 7|get 2|set 2 9|get 2", "ok|none|none|ok|9", "ok|none|none|ok|9")
	// The last lose counts alone.
	toldTwice(t, "lose 3|lose 3|set 2 7|set 2 8|get 2", "ok|ok|none|ok|8", "ok|ok|none|ok|8")
	toldTwice(t, "lose 999999999|set 2 7|get 2|get 8|lose 0|get 2|set 2 9|get 2", "ok|none|none|none|ok|0|ok|9", "ok|none|none|none|ok|0|ok|9")
	toldTwice(t, "set 2 7|lose 3|set 2 8|get 2|lose 3|get 2|get 2", "ok|ok|none|7|ok|none|7", "ok|ok|none|7|ok|none|7")
	// Of a question that may not be no letter is sent; of one that gets an exception there is one.
	toldTwice(t, "lose 3|get 65536|set 65536 0|set 0 65536|get 0|get 0", "ok|error 1|error 1|error 1|none|0", "ok|error 1|error 1|error 1|none|0")
	toldTwice(t, "lose 2|get 8|lose 3|get 8|get 8", "ok|exception 2|ok|none|exception 2", "ok|exception 2|ok|none|exception 2")
	toldTwice(t, "lose 1|set 8 1|lose 2|set 8 1|lose 3|set 8 1|set 8 1", "ok|exception 2|ok|exception 2|ok|none|exception 2", "ok|exception 2|ok|exception 2|ok|none|exception 2")
	// What stations say is not lost so.
	toldTwice(t, "lose 9|say 2 a|round 60|got|get 0|get 0|get 0|get 0", "ok|ok|ok|2>3:a|none|none|none|0", "ok|ok|ok|2>3:a|none|none|none|0")
	for lose := range 12 {
		want := strings.Repeat("none|", lose/3) + strings.TrimSuffix(strings.Repeat("0|", 5-lose/3), "|")
		deskTells(t, "lose "+strconv.Itoa(lose)+strings.Repeat("|get 1", 5), "ok|"+want)
	}
}

// A letter that gets lost on the way back: it is done, and no answer comes at first. No lose makes that, as the question that
// comes ahead of an answer gets lost first; so this is done by the calls that a desk is made of.
func TestLostOnTheWayBack(t *testing.T) {
	for lost := range 3 {
		s := impl.Slave{Table: impl.TableNew(8, 8)}
		out := impl.Issue(impl.Master{Next: 1}, askBytesOf(impl.Ask{Fc: 6, At: 2, Many: 1, Values: []int64{7}}))
		for tries := 0; len(out.Master.Open) > 0; out = impl.MasterTick(out.Master) {
			for _, text := range out.Sent {
				took := impl.SlaveTake(s, text)
				s = took.Slave
				if s.Runs != 1 || s.Table.Regs[2] != 7 {
					t.Fatalf("at the try %d it is %v", tries, s)
				}
				if tries++; tries > lost {
					out = impl.MasterTake(out.Master, took.Answer)
				}
			}
		}
		if len(out.Master.Done) != 1 || out.Master.Done[0].Answer != "\x06\x00\x02\x00\x07" {
			t.Errorf("with %d lost on the way back: %v", lost, out.Master)
		}
	}
}

func TestDeskSetAndGet(t *testing.T) {
	toldTwice(t, "get 0|get 7|get 8|get 65535|get 65536|get 999999999", "0|0|exception 2|exception 2|error 1|error 1", "0|0|exception 2|exception 2|error 1|error 1")
	toldTwice(t, "set 0 1|set 7 1|set 8 1|set 65535 1|set 65536 1|set 999999999 1", "ok|ok|exception 2|exception 2|error 1|error 1", "ok|ok|exception 2|exception 2|error 1|error 1")
	toldTwice(t, "set 3 0|get 3|set 3 65535|get 3|set 3 65536|get 3|set 3 999999999|get 3|set 3 256|get 3", "ok|0|ok|65535|error 1|65535|error 1|65535|ok|256", "ok|0|ok|65535|error 1|65535|error 1|65535|ok|256")
	toldTwice(t, "set 8 65535|set 8 65536|set 65536 65536", "exception 2|error 1|error 1", "exception 2|error 1|error 1")
	toldTwice(t, "set 2 7|get 1|get 2|get 3|set 2 8|get 2", "ok|0|7|0|ok|8", "ok|0|7|0|ok|8")
	// Each place has a value of its own.
	lines, told := "set 0 100", "ok"
	for at := 1; at < 8; at++ {
		lines, told = lines+"|set "+strconv.Itoa(at)+" "+strconv.Itoa(100+at*257), told+"|ok"
	}
	for at := range 8 {
		lines, told = lines+"|get "+strconv.Itoa(at), told+"|"+strconv.Itoa(100+at*257)
	}
	toldTwice(t, lines, told, told)
	// Neither the wire nor who is down has to do with it.
	deskTells(t, "down 1|down 2|down 3|set 1 5|up 1|get 1|round 60|get 1", "ok|ok|ok|ok|ok|5|ok|5")
}

func TestDeskManyQuestions(t *testing.T) {
	deskTells(t, strings.TrimSuffix(strings.Repeat("get 1|", 40), "|"), strings.TrimSuffix(strings.Repeat("0|", 40), "|"))
	deskTells(t, strings.TrimSuffix(strings.Repeat("get 9|", 40), "|"), strings.TrimSuffix(strings.Repeat("exception 2|", 40), "|"))
	deskTells(t, "lose 999"+strings.Repeat("|get 1", 39), "ok"+strings.Repeat("|none", 39))
	var lines, told []string
	for i := range 20 {
		at, n := strconv.Itoa(i%8), strconv.Itoa(1000+i)
		lines, told = append(lines, "set "+at+" "+n, "get "+at), append(told, "ok", n)
	}
	deskTells(t, strings.Join(lines, "|"), strings.Join(told, "|"))
	lines, told = nil, nil
	for i := range 13 {
		lines, told = append(lines, "lose 3", "set 1 "+strconv.Itoa(i+1), "set 2 "+strconv.Itoa(i+1)), append(told, "ok", "none", "ok")
	}
	deskTells(t, strings.Join(append(lines, "get 1"), "|"), strings.Join(append(told, "0"), "|"))
	deskTells(t, strings.Join(append(lines, "get 2"), "|"), strings.Join(append(told, "13"), "|"))
}

// someLine is a line that is right, as a rule one that does something.
func someLine(source *rand.Rand) string {
	pick := func(of ...string) string { return of[source.Intn(len(of))] }
	addr := func() string { return pick("1", "2", "3", "1", "2", "3", "1", "2", "3", "0", "4", "999999999") }
	place := func() string { return pick("0", "1", "2", "7", "1", "2", "8", "65535", "65536") }
	switch source.Intn(18) {
	case 0, 1, 2:
		return "round " + pick("0", "1", "2", "5", "9", "30", "60", "61")
	case 3, 4:
		return "turn " + addr() + " " + strconv.Itoa(source.Intn(17))
	case 5:
		return "down " + addr()
	case 6, 7:
		return "up " + addr()
	case 8:
		return "say " + addr() + " " + pick("a", "hey", "x;y", strings.Repeat("z", 20), strings.Repeat("z", 21), "\xff\r")
	case 9:
		return "words " + addr() + " " + pick("0", "1", "77", "65535", "65536")
	case 10, 11:
		return "global " + addr() + " " + addr()
	case 12:
		return "lose " + pick("0", "1", "2", "3", "4", "5", "7")
	case 13:
		return "set " + place() + " " + pick("0", "1", "256", "65535", "65536")
	case 14:
		return "get " + place()
	case 15:
		return "got"
	}
	return "holds"
}

// Each line tells a line, one by one: what the first lines tell is the same, whatever stands behind them.
func TestEachLineTellsALine(t *testing.T) {
	source := rand.New(rand.NewSource(15))
	told := map[string]int{}
	for range 400 {
		text, before := "", ""
		var all []string
		// Some texts begin with something that is told all, or with as much to say as may wait.
		ahead := [][]string{nil, {"words 2 77", "round 30"}, {"say 1 a", "say 1 b", "say 1 c"}}[source.Intn(3)]
		for i := range 1 + source.Intn(40) {
			next := someLine(source)
			if i < len(ahead) {
				next = ahead[i]
			}
			text += next + "\n"
			out := impl.DeskRun(text)
			line, isMore := strings.CutPrefix(out.Text, before)
			if out.Code != impl.OK || !isMore || strings.Index(line, "\n") != len(line)-1 || len(line) < 2 {
				t.Fatalf("DeskRun(%q)\n got %v\nbehind %q", text, out, before)
			}
			all, before = append(all, line), out.Text
		}
		deskIs(t, text, deskRunOf(text))
		for _, line := range all {
			told[line]++
		}
	}
	for _, line := range []string{"ok", "-", "0", "1", "2", "3", "none", "exception 2", "error 1", "error 6", "error 9", "error 10", "77", "65535", "256"} {
		if told[line+"\n"] == 0 {
			t.Errorf("no line tells %q", line)
		}
	}
}

// A right text with one byte turned, gone or more is just what the document's words make of it.
func TestTurnedDesks(t *testing.T) {
	source := rand.New(rand.NewSource(151))
	for range 60 {
		text := ""
		for range 1 + source.Intn(5) {
			text += someLine(source) + "\n"
		}
		for at := range len(text) {
			for _, b := range []string{"", " ", "\n", "0", "1", "x", "\r", "\xff", text[at : at+1]} {
				for _, turned := range []string{text[:at] + b + text[at:], text[:at] + b + text[at+1:]} {
					fault := deskFaultOf(turned)
					if got := impl.DeskFault(turned); got != fault {
						t.Fatalf("DeskFault(%q) = %v, want %v", turned, got, fault)
					}
				}
			}
			turned := text[:at] + string([]byte{byte(source.Intn(256))}) + text[at+1:]
			deskIs(t, turned, deskRunOf(turned))
		}
	}
}

// linesTold are the lines that a text tells.
func linesTold(t *testing.T, text string) []string {
	t.Helper()
	out := impl.DeskRun(text)
	if out.Code != impl.OK {
		t.Fatalf("DeskRun(%q) = %v", text, out)
	}
	return strings.Split(strings.TrimSuffix(out.Text, "\n"), "\n")
}

// holdersAfter is who holds at the end of each of sixteen rounds, behind the lines ahead.
func holdersAfter(t *testing.T, ahead string) []string {
	t.Helper()
	told := linesTold(t, ahead+strings.Repeat("round 1\nholds\n", 16))
	var l []string
	for at := len(told) - 31; at < len(told); at += 2 {
		l = append(l, told[at])
	}
	return l
}

func TestFirstOneClaims(t *testing.T) {
	want := []string{"-", "-", "-", "1"}
	if got := holdersAfter(t, "")[:4]; !slices.Equal(got, want) {
		t.Errorf("at first hold %q", got)
	}
	// Who comes first of those who are up claims.
	deskTells(t, "down 1|round 4|holds|round 1|holds", "ok|ok|-|ok|2")
	deskTells(t, "down 1|down 2|round 5|holds|round 1|holds|round 60|holds", "ok|ok|ok|-|ok|3|ok|3")
	deskTells(t, "down 3|round 3|holds|round 1|holds", "ok|ok|-|ok|1")
	// What the first one says as it claims is heard by the others: they do not.
	deskTells(t, "turn 1 0|turn 1 0|turn 1 0|turn 1 0|turn 2 0|turn 2 0|turn 2 0|turn 2 0|turn 2 0|holds|turn 2 0|turn 2 0|holds", "0|0|0|1|0|0|0|0|1|2|2|1|2")
	deskTells(t, "turn 1 0|turn 1 0|turn 1 0|turn 1 0|turn 2 0|turn 2 0|turn 2 0|turn 2 0|turn 3 0|holds", "0|0|0|1|0|0|0|0|0|1")
}

// turnsIn is how often the token comes to each, as these hold one behind the other; each time to the next one.
func turnsIn(t *testing.T, holders []string, next map[string]string) map[string]int {
	t.Helper()
	turns := map[string]int{holders[0]: 1}
	for at := 1; at < len(holders); at++ {
		if holders[at] == holders[at-1] {
			continue
		}
		if holders[at] != next[holders[at-1]] {
			t.Fatalf("the token goes so: %q", holders)
		}
		turns[holders[at]]++
	}
	return turns
}

func TestAllTakeTurnsAtTheDesk(t *testing.T) {
	var holders []string
	for ahead := 4; ahead < 164; ahead += 16 {
		text := strings.Repeat("round 60\n", ahead/60) + "round " + strconv.Itoa(ahead%60) + "\n"
		holders = append(holders, holdersAfter(t, text)...)
	}
	turns := turnsIn(t, holders, map[string]string{"1": "2", "2": "3", "3": "1"})
	if len(holders) != 160 || turns["1"] < 8 || turns["2"] < 8 || turns["3"] < 8 || len(turns) != 3 {
		t.Errorf("of %q the turns are %v", holders, turns)
	}
}

// When who holds goes down, at whatever round, another one claims, and the others take turns; then it comes up again, and all do.
func TestAnotherOneClaims(t *testing.T) {
	down := map[string]int{}
	for rounds := 4; rounds <= 60; rounds++ {
		text := "round " + strconv.Itoa(rounds) + "\n"
		told := linesTold(t, text+"holds\n")
		who := told[1]
		down[who]++
		text += "down " + who + "\n"
		deskIs(t, text+"holds\nround 20\nholds\n", deskRunOf(text+"holds\nround 20\nholds\n"))
		told = linesTold(t, text+"holds\nround 20\nholds\n")
		if another := told[4]; told[2] != "-" || len(another) != 1 || !strings.Contains("123", another) || another == who {
			t.Fatalf("%s is down behind %d rounds, and it tells %q", who, rounds, told)
		}
		others := strings.Replace("1213231", who, "", -1)
		a, b := others[:1], strings.Replace(others, others[:1], "", -1)[:1]
		turns := turnsIn(t, append(holdersAfter(t, text+"round 20\n"), holdersAfter(t, text+"round 36\n")...), map[string]string{a: b, b: a})
		if turns[a] < 2 || turns[b] < 2 || turns[who] != 0 {
			t.Fatalf("%s is down behind %d rounds, and the turns are %v", who, rounds, turns)
		}
		text += "round 20\nup " + who + "\nround 40\n"
		turns = turnsIn(t, append(holdersAfter(t, text), holdersAfter(t, text+"round 16\n")...), map[string]string{"1": "2", "2": "3", "3": "1"})
		if turns[a] < 1 || turns[b] < 1 || turns[who] < 1 {
			t.Fatalf("%s is up again, and the turns are %v", who, turns)
		}
	}
	if down["1"] < 5 || down["2"] < 5 || down["3"] < 5 || len(down) != 3 {
		t.Errorf("of those who hold go down %v", down)
	}
}

func TestAnotherOneClaimsByHand(t *testing.T) {
	deskTells(t, "round 4|holds|down 1|holds|round 3|holds|round 1|holds", "ok|1|ok|-|ok|-|ok|2")
	deskTells(t, "round 4|holds|down 1|round 5|holds|up 1|holds|round 60|down 2|round 60|holds", "ok|1|ok|ok|2|ok|2|ok|ok|ok|1")
	deskTells(t, "round 60|down 2|down 1|round 20|holds|down 3|round 20|holds|up 1|up 2|up 3|round 4|holds", "ok|ok|ok|ok|3|ok|ok|-|ok|ok|ok|ok|1")
}

func TestDeskMemory(t *testing.T) {
	for _, text := range []string{"got\n", "say 2 " + strings.Repeat("x", 20) + "\nround 60\ngot\n", "holds\nx\n"} {
		given := strings.Clone(text)
		out := impl.DeskRun(given)
		if sharesText(out.Text, given) || given != text {
			t.Errorf("what is told of %q is handed in", text)
		}
	}
}

func FuzzDesk(f *testing.F) {
	source := rand.New(rand.NewSource(16))
	for range 60 {
		text := ""
		for range source.Intn(41) {
			text += someLine(source) + "\n"
		}
		f.Add(text, source.Int63())
	}
	for _, line := range oneOfEach() {
		f.Add(line+"\n", int64(0))
		f.Add(line, int64(1))
		f.Add(line+"\n"+line+" \n", int64(2))
	}
	f.Fuzz(func(t *testing.T, text string, seed int64) {
		deskIs(t, text, deskRunOf(text))
		source := rand.New(rand.NewSource(seed))
		lines := strings.SplitAfter(text, "\n")
		at := source.Intn(len(lines))
		mixed := strings.Join(lines[:at], "") + someLine(source) + "\n" + strings.Join(lines[at:], "")
		deskIs(t, mixed, deskRunOf(mixed))
	})
}
