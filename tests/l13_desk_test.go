package tests

import (
	"math/rand"
	"slices"
	"strconv"
	"strings"
	"testing"

	"loop.example/g00769/impl"
)

// The desk by plain words: what the tests hold the program's answers against.

// plainPieces goes through a text byte by byte; what is behind the last mark is a piece, too.
func plainPieces(text string, mark byte) []string {
	pieces, from := []string{}, 0
	for i := range len(text) {
		if text[i] == mark {
			pieces, from = append(pieces, text[from:i]), i+1
		}
	}
	return append(pieces, text[from:])
}

func plainLines(text string) []string {
	lines := plainPieces(text, 10)
	if lines[len(lines)-1] == "" {
		lines = lines[:len(lines)-1]
	}
	return lines
}

func plainNumber(word string) (int, bool) {
	n, err := strconv.Atoi(word)
	return n, err == nil && strconv.Itoa(n) == word && n > -1000000000 && n < 1000000000
}

func plainYes(yes bool) string {
	if yes {
		return "yes"
	}
	return "no"
}

func plainDeskConfig() impl.Config {
	return impl.Config{UserRealm: []int{0, 1, 2}, ServiceRealm: []int{0, 1, 2}, Links: pairs(0, 1, 1, 2, 1, 0, 2, 1), Proxy: pairs(0, 1, 0, 2, 1, 2), Skew: 5}
}

func plainDeskWorld() impl.World {
	none := impl.Cache{Quiet: -1}
	return impl.World{Config: plainDeskConfig(), Fresh: 101, Waits: make([]impl.Wait, 6), Caches: []impl.Cache{none, none, none}}
}

// plainAnswer is that to one line, which has a byte; the world comes to be what it is behind it.
func plainAnswer(w *impl.World, line string) string {
	words := plainPieces(line, ' ')
	row := words[0] + " " + strconv.Itoa(len(words)-1)
	done := func(a impl.Act) string {
		next, code := plainDo(*w, a)
		*w = next
		return strconv.Itoa(code)
	}
	if row == "forge 1" {
		text, ok := impl.Unhex(words[1])
		if !ok {
			return "what"
		}
		return done(forging(text))
	}
	var n []int
	for _, word := range words[1:] {
		number, ok := plainNumber(word)
		if !ok {
			return "what"
		}
		n = append(n, number)
	}
	kinds := map[string]int{"login 1": 2, "centre 2": 4, "reply 2": 5, "apply 3": 6, "serve 2": 7, "leak 1": 8, "restart 1": 10}
	if kind := kinds[row]; kind != 0 {
		return done(act(kind, n...))
	}
	switch row {
	case "ask 6":
		return done(asking(n[0], n[1], n[2], 0, rest(n[3], n[4], n[5])))
	case "ask 7":
		return done(asking(n[0], n[1], n[2], n[6], rest(n[3], n[4], n[5])))
	case "tick 1":
		w.Now = min(100000, w.Now+max(0, min(200, n[0])))
		return strconv.Itoa(w.Now)
	case "flow 6":
		*w = plainDeskWorld()
		for _, a := range plainFlow(w.Config, n[0], n[1], rest(n[2], n[3], n[4]), n[5]) {
			done(a)
		}
		return plainYes(len(w.Accepts) > 0)
	}
	return plainTold(*w, row, n)
}

// plainTold is of the lines that ask, and do nothing.
func plainTold(w impl.World, row string, n []int) string {
	switch row {
	case "net 1":
		if n[0] < 0 || n[0] >= len(w.Net) {
			return "none"
		}
		return impl.Hex(w.Net[n[0]])
	case "creds 1":
		owned := 0
		for _, x := range w.Creds {
			if x.Owner == n[0] {
				owned++
			}
		}
		return strconv.Itoa(owned)
	case "accepts 0":
		told := strconv.Itoa(len(w.Accepts))
		if len(w.Accepts) > 0 {
			last := w.Accepts[len(w.Accepts)-1]
			told += " " + strconv.Itoa(last.Client) + " " + strconv.Itoa(last.Server) + " " + strconv.Itoa(last.Op)
		}
		return told
	case "knows 1":
		return plainYes(plainViewOf(w.Known).reached[n[0]])
	case "truth 0":
		return plainYes(plainSaid(w) == allTrue)
	}
	return "what"
}

func plainDesk(text string) string {
	lines := plainLines(text)
	if len(text) > 20000 || len(lines) > 120 {
		return ""
	}
	w, answers := plainDeskWorld(), ""
	for _, line := range lines {
		if line != "" {
			answers += plainAnswer(&w, line) + "\n"
		}
	}
	return answers
}

// joined ends each line by its byte 10.
func joined(lines []string) string {
	text := ""
	for _, line := range lines {
		text += line + "\n"
	}
	return text
}

// checkAsMany asks that each line that has a byte is answered by one line.
func checkAsMany(t *testing.T, what string, lines []string, answers string) {
	t.Helper()
	asked := 0
	for _, line := range lines {
		if line != "" {
			asked++
		}
	}
	got := plainLines(answers)
	if len(got) != asked || slices.Contains(got, "") || answers != joined(got) {
		t.Fatalf("%s: %d lines of %q are answered by %q", what, asked, lines, answers)
	}
}

// checkLines holds the desk's answers to lines against plain words, and asks for promise 13 of each beginning of them.
func checkLines(t *testing.T, what string, lines []string) string {
	t.Helper()
	all := impl.Desk(joined(lines))
	if want := plainDesk(joined(lines)); all != want {
		t.Fatalf("%s: Desk of %q is %q, not %q", what, lines, all, want)
	}
	for count := range len(lines) + 1 {
		checkBeginning(t, what, lines, count, all)
	}
	return all
}

// checkBeginning is of the first lines of some, whose answers are handed in.
func checkBeginning(t *testing.T, what string, lines []string, count int, all string) {
	t.Helper()
	some := impl.Desk(joined(lines[:count]))
	if !strings.HasPrefix(all, some) {
		t.Fatalf("%s: the first %d of %q are answered by %q, all by %q", what, count, lines, some, all)
	}
	checkAsMany(t, what, lines[:count], some)
	// The last byte 10 may lack; a line that has no other byte is none then.
	if cut := strings.TrimSuffix(joined(lines[:count]), "\n"); impl.Desk(cut) != some {
		t.Fatalf("%s: without its last byte %q is answered by %q, not %q", what, cut, impl.Desk(cut), some)
	}
}

// told is a line and its answer. A line without a byte has none.
type told struct{ line, answer string }

func checkTold(t *testing.T, what string, rows ...told) {
	t.Helper()
	var lines []string
	want := ""
	for _, x := range rows {
		lines = append(lines, x.line)
		if x.line != "" {
			want += x.answer + "\n"
		}
	}
	if got := checkLines(t, what, lines); got != want {
		t.Errorf("%s: Desk of %q is %q, not %q", what, lines, got, want)
	}
}

// someLines lead to a world of which each question has an answer of its own: user 0 is served by service 0, which has logged in, too, and waits; a key is leaked.
func someLines() []told {
	return []told{
		{"login 0", "0"}, {"centre 0 0", "0"}, {"reply 0 1", "0"}, {"ask 0 0 0 7 255 40", "0"}, {"centre 0 2", "0"}, {"reply 0 3", "0"},
		{"tick 2", "2"}, {"apply 0 1 6", "0"}, {"serve 0 4", "0"}, {"login 3", "0"}, {"centre 0 5", "0"}, {"reply 3 6", "0"},
		{"leak 2", "0"}, {"forge 6b02", "0"}, {"ask 3 2 0 1 3 30", "0"},
	}
}

func linesIn(rows []told) []string {
	var lines []string
	for _, x := range rows {
		lines = append(lines, x.line)
	}
	return lines
}

// probes tell one world from another one.
func probes() []string {
	lines := []string{"accepts", "truth", "tick 0", "serve 0 4", "centre 0 8", "reply 3 9"}
	for p := range 6 {
		lines = append(lines, "creds "+strconv.Itoa(p), "login "+strconv.Itoa(p))
	}
	for m := range 18 {
		lines = append(lines, "net "+strconv.Itoa(m))
	}
	for _, k := range []int{1, 2, 3, 11, 21, 102, 104} {
		lines = append(lines, "knows "+strconv.Itoa(k))
	}
	return lines
}

// checkWhat asks that a line is answered by what, at the beginning and behind other lines, and changes nothing.
func checkWhat(t *testing.T, line string) {
	t.Helper()
	if got := impl.Desk(line); got != "what\n" {
		t.Errorf("%q is answered by %q", line, got)
	}
	ahead := linesIn(someLines())
	with := slices.Concat(ahead, []string{line}, probes())
	without := slices.Concat(ahead, probes())
	got, want := plainLines(impl.Desk(joined(with))), plainLines(impl.Desk(joined(without)))
	if want = slices.Insert(want, len(ahead), "what"); !slices.Equal(got, want) {
		t.Errorf("%q changes something: %q, not %q", line, got, want)
	}
}

func TestDeskConstants(t *testing.T) {
	if impl.MaxText != 20000 || impl.MaxLines != 120 {
		t.Error(impl.MaxText, impl.MaxLines)
	}
}

func TestLinesOfADesk(t *testing.T) {
	for _, x := range []struct{ text, want string }{
		{"", ""},
		{"\n", ""},
		{"\n\n\n", ""},
		{"accepts", "0\n"},
		{"accepts\n", "0\n"},
		{"\naccepts", "0\n"},
		{"\n\naccepts\n\n", "0\n"},
		{"tick 1\n\n\ntick 1\n\ntick 1", "1\n2\n3\n"},
		{"tick 1\n\n\ntick 1\n\ntick 1\n", "1\n2\n3\n"},
		{"x", "what\n"},
		{"x\n", "what\n"},
		{" ", "what\n"},
		{" \n", "what\n"},
		{"\n \n\n", "what\n"},
		{"accepts\r\n", "what\n"},
		{"accepts\r\naccepts\n", "what\n0\n"},
		{"\r", "what\n"},
		{"\x00", "what\n"},
		{"accepts\x00", "what\n"},
		{"tick\t1", "what\n"},
		{"tick\u00a01", "what\n"},
		{"tick\x0b1\naccepts", "what\n0\n"},
		{"\xff\xfe\n\xc3", "what\nwhat\n"},
	} {
		if got := impl.Desk(x.text); got != x.want {
			t.Errorf("Desk(%q) = %q, not %q", x.text, got, x.want)
		}
		if plain := plainDesk(x.text); plain != x.want {
			t.Errorf("plain words say %q of %q, not %q", plain, x.text, x.want)
		}
	}
}

func TestSomeLines(t *testing.T) {
	told0 := impl.Hex(impl.LoginReq(0, 0, 101))
	checkTold(t, "some lines", slices.Concat(someLines(), []told{
		{"accepts", "1 0 0 6"}, {"creds 0", "2"}, {"creds 3", "1"}, {"creds 1", "0"}, {"net 0", told0}, {"net 7", "6b02"}, {"net 9", "none"},
		{"knows 2", "yes"}, {"knows 1", "no"}, {"truth", "yes"}, {"tick 0", "2"},
		{"centre 0 8", "0"}, {"reply 3 9", "0"}, {"creds 3", "2"}, {"apply 3 3 1", "0"}, {"serve 0 10", "0"}, {"accepts", "2 3 0 1"}, {"serve 0 10", "3"}, {"truth", "yes"},
	})...)
}

// rightRows are the rows of the table, each with the numbers of a right one.
func rightRows() []string {
	return []string{
		"tick 1", "login 1", "centre 0 8", "reply 0 3", "serve 0 4", "leak 21", "restart 0", "ask 0 0 0 7 255 40", "ask 3 2 0 7 255 40 1", "apply 0 1 6", "forge 6b02",
		"flow 0 2 7 255 40 6", "net 0", "creds 0", "accepts", "knows 2", "truth",
	}
}

func TestWordsTooManyAndTooFew(t *testing.T) {
	for _, row := range rightRows() {
		if got := impl.Desk(row); got == "what\n" {
			t.Errorf("%q is answered by %q", row, got)
		}
		words := strings.Split(row, " ")
		for count := 1; count < len(words); count++ {
			if words[0] == "ask" && count == 7 {
				continue
			}
			checkWhat(t, strings.Join(words[:count], " "))
		}
		for _, more := range []string{" 0", " 1 1", " x", " 6b02", " truth"} {
			if words[0] == "ask" && len(words) == 7 && more == " 0" {
				continue
			}
			checkWhat(t, row+more)
		}
	}
}

func TestWordsThatAreNoNumbers(t *testing.T) {
	wrong := []string{"", "-", "+", "01", "00", "-0", "-01", "+1", "x", "1x", "x1", "0x1", "1.", "1e3", "1_0", "--1", "1-", "1000000000", "-1000000000", "99999999999999999999", "9223372036854775807", "\r", "1\r", "1\t", "\x00", "\xff", "\u0661"}
	for _, row := range rightRows() {
		words := strings.Split(row, " ")
		if words[0] == "forge" {
			continue
		}
		for at := range words[1:] {
			for _, word := range wrong {
				line := slices.Clone(words)
				line[1+at] = word
				checkWhat(t, strings.Join(line, " "))
			}
		}
	}
}

func TestNumbersOfNineDigits(t *testing.T) {
	for _, n := range []string{"999999999", "-999999999"} {
		checkTold(t, n, slices.Concat(someLines(), []told{
			{"login " + n, "2"}, {"centre " + n + " 0", "2"}, {"centre 0 " + n, "2"}, {"reply " + n + " 3", "2"}, {"reply 3 " + n, "2"},
			{"serve " + n + " 4", "2"}, {"serve 0 " + n, "2"}, {"leak " + n, "2"}, {"restart " + n, "2"},
			{"ask " + n + " 0 0 7 255 40", "2"}, {"ask 0 " + n + " 0 7 255 40", "2"}, {"ask 0 0 0 " + n + " 255 40", "3"}, {"ask 0 0 0 7 " + n + " 40", "3"}, {"ask 0 0 0 7 255 " + n, "3"},
			{"apply " + n + " 1 6", "2"}, {"apply 0 " + n + " 6", "2"}, {"apply 0 1 " + n, "2"},
			{"net " + n, "none"}, {"creds " + n, "0"}, {"knows " + n, "no"}, {"accepts", "1 0 0 6"},
		})...)
	}
	checkTold(t, "as a target and an Accept", slices.Concat(someLines(), []told{
		{"ask 0 0 -999999999 7 255 40", "3"}, {"ask 0 0 999999999 7 255 40", "0"}, {"centre 0 9", "3"}, {"ask 3 2 0 7 255 40 999999999", "2"}, {"ask 3 2 0 7 255 40 -999999999", "0"},
	})...)
}

func TestNamesThatAreNone(t *testing.T) {
	for _, line := range []string{
		"hello", "0", "-1", "what", "yes", "none", "Tick 1", "TICK 1", "ticks 1", "tic 1", "ti ck 1", "Accepts", "accept", "truths", "Truth", "know 1", "cred 0", "logins 0", "tick1", "net0",
		"tick-1", "forge6b02", "refer 0 0", "delegate 0", "play", "1 tick", "truth\x00", "\xeftruth", "truth,", "#", "truth truth", "net 0 net 0", "AcTick 1",
	} {
		checkWhat(t, line)
	}
}

func TestWordsWithoutBytes(t *testing.T) {
	for _, line := range []string{" ", "  ", "   ", " 1", "1 ", "  1", strings.Repeat(" ", 7)} {
		checkWhat(t, line)
	}
	for _, row := range rightRows() {
		checkWhat(t, " "+row)
		checkWhat(t, row+" ")
		checkWhat(t, "  "+row)
		checkWhat(t, row+"  ")
		checkWhat(t, " "+row+" ")
		for at := range len(row) {
			if row[at] == ' ' {
				checkWhat(t, row[:at]+" "+row[at:])
			}
		}
	}
	// Here the word without bytes is one too few, and stands where a number should.
	for _, line := range []string{"tick ", "login ", "net ", "creds ", "knows ", "leak ", "restart ", "centre 0 ", "centre  0", "ask 0 0 0 7 255 ", "ask 0 0 0 7 255 40 ", "ask  0 0 7 255 40", "flow 0 2 7 255 40 ", "accepts ", "truth "} {
		checkWhat(t, line)
	}
}

func TestTicks(t *testing.T) {
	checkTold(t, "ticks", told{"tick 0", "0"}, told{"tick -1", "0"}, told{"tick 1", "1"}, told{"tick 0", "1"}, told{"tick -5", "1"}, told{"tick -999999999", "1"},
		told{"tick 199", "200"}, told{"tick 200", "400"}, told{"tick 201", "600"}, told{"tick 202", "800"}, told{"tick 100000", "1000"}, told{"tick 999999999", "1200"}, told{"tick 1000000000", "what"}, told{"tick 0", "1200"})
	checkTold(t, "200", told{"tick 200", "200"})
	checkTold(t, "201", told{"tick 201", "200"})
	text, want := "", ""
	for i := range 120 {
		text, want = text+"tick 200\n", want+strconv.Itoa(200*(i+1))+"\n"
	}
	if got := impl.Desk(text); got != want {
		t.Errorf("as far as it goes: %q", got)
	}
}

// Who is where, and how far clocks may be apart, is told by what centres answer.
func TestConfigOfADesk(t *testing.T) {
	for p := range 6 {
		for r := -1; r <= 3; r++ {
			want := "3"
			if r < 0 || r > 2 {
				want = "2"
			} else if r == p%3 {
				want = "0"
			}
			checkTold(t, "a login", told{"login " + strconv.Itoa(p), "0"}, told{"centre " + strconv.Itoa(r) + " 0", want})
		}
	}
	checkTold(t, "late", told{"login 0", "0"}, told{"tick 5", "5"}, told{"centre 0 0", "0"})
	checkTold(t, "too late", told{"login 0", "0"}, told{"tick 6", "6"}, told{"centre 0 0", "3"})
	// From realm 0 to 2, and back, it goes by realm 1.
	for p := range 6 {
		for s := range 3 {
			hops := max(p%3-s, s-p%3)
			last := 4 + 2*hops
			op := (p + s) % 8
			rows := []told{
				{"flow " + strings.Join([]string{strconv.Itoa(p), strconv.Itoa(s), "7 255 40", strconv.Itoa(op)}, " "), "yes"},
				{"creds " + strconv.Itoa(p), strconv.Itoa(2 + hops)},
				{"net " + strconv.Itoa(last+1), "none"},
				{"accepts", strings.Join([]string{"1", strconv.Itoa(p), strconv.Itoa(s), strconv.Itoa(op)}, " ")},
			}
			checkTold(t, "a flow", rows...)
			if impl.Desk(rows[0].line+"\nnet "+strconv.Itoa(last)) == "yes\nnone\n" {
				t.Errorf("%d to %d has no message %d", p, s, last)
			}
		}
	}
}

func TestRestartsOfADesk(t *testing.T) {
	ahead := someLines()[:7]
	checkTold(t, "a Cache that is lost", slices.Concat(ahead, []told{
		{"restart 1", "0"}, {"apply 0 1 1", "0"}, {"serve 0 4", "0"}, {"restart 0", "0"}, {"apply 0 1 2", "0"}, {"serve 0 5", "3"},
		{"tick 10", "12"}, {"apply 0 1 3", "0"}, {"serve 0 6", "3"}, {"tick 1", "13"}, {"serve 0 6", "0"}, {"serve 0 6", "3"}, {"accepts", "2 0 0 3"},
		{"restart -1", "2"}, {"restart 3", "2"}, {"restart 2", "0"},
	})...)
}

func TestAsksOfADesk(t *testing.T) {
	ahead := someLines()
	w := plainDeskWorld()
	for _, x := range ahead {
		plainAnswer(&w, x.line)
	}
	mine, service := w.Creds[0], w.Creds[2]
	asked := func(x impl.Cred, target int, r impl.Rest, evid string) string {
		return impl.Hex(impl.AskReq(x.Ticket, x.Key, auth(x.Client, 2, 109), target, r, 109, evid))
	}
	for _, x := range []struct {
		line string
		cred impl.Cred
		r    impl.Rest
		s    int
		evid string
	}{
		{"ask 0 0 2 5 129 77", mine, rest(5, 129, 77), 2, ""},
		{"ask 0 0 2 5 129 77 0", mine, rest(5, 129, 77), 2, ""},
		{"ask 0 0 2 5 129 77 -1", mine, rest(5, 129, 77), 2, ""},
		{"ask 0 0 0 0 0 0", mine, rest(0, 0, 0), 0, ""},
		{"ask 3 2 1 1 2 3", service, rest(1, 2, 3), 1, ""},
		{"ask 3 2 1 1 2 3 1", service, rest(1, 2, 3), 1, w.Accepts[0].Ticket},
		{"ask 3 2 1 1 2 3 0", service, rest(1, 2, 3), 1, ""},
	} {
		checkTold(t, x.line, slices.Concat(ahead, []told{{x.line, "0"}, {"net 9", asked(x.cred, x.s, x.r, x.evid)}, {"net 10", "none"}})...)
	}
	checkTold(t, "asks that are not sent", slices.Concat(ahead, []told{
		{"ask 0 0 0 8 255 40", "3"}, {"ask 0 0 0 7 256 40", "3"}, {"ask 0 0 0 7 255 100001", "3"}, {"ask 0 0 0 -1 255 40", "3"}, {"ask 0 0 -1 7 255 40", "3"}, {"ask 0 1 0 7 255 40", "3"},
		{"ask 0 2 0 7 255 40", "2"}, {"ask 0 3 0 7 255 40", "2"}, {"ask 0 -1 0 7 255 40", "2"}, {"ask 1 0 0 7 255 40", "2"}, {"ask 6 0 0 7 255 40", "2"},
		{"ask 3 2 0 7 255 40 2", "2"}, {"ask 0 0 0 7 255 40 1", "2"}, {"net 9", "none"},
	})...)
	// Each service has a realm of its own, so that none is given a ticket in a user's name.
	checkTold(t, "in a user's name", slices.Concat(ahead, []told{
		{"ask 3 2 1 7 255 40 1", "0"}, {"centre 0 9", "3"}, {"centre 1 9", "3"}, {"ask 3 2 2 7 255 40 1", "0"}, {"centre 0 10", "3"}, {"ask 3 2 0 7 255 40 1", "0"}, {"centre 0 11", "3"}, {"ask 3 2 0 7 255 40 0", "0"}, {"centre 0 12", "0"},
	})...)
}

func TestAppliesOfADesk(t *testing.T) {
	ahead := someLines()
	checkTold(t, "applies", slices.Concat(ahead, []told{
		{"apply 0 1 0", "0"}, {"apply 0 1 7", "0"}, {"apply 0 1 8", "2"}, {"apply 0 1 -1", "2"}, {"apply 0 0 0", "3"}, {"apply 0 2 0", "2"}, {"apply 1 1 0", "2"}, {"apply 0 -1 0", "2"}, {"apply 3 2 1", "3"},
		{"serve 1 9", "3"}, {"serve 0 9", "0"}, {"accepts", "2 0 0 0"}, {"serve 0 10", "0"}, {"accepts", "3 0 0 7"}, {"serve 0 11", "2"}, {"serve 3 9", "2"}, {"serve 0 0", "3"}, {"accepts", "3 0 0 7"},
	})...)
	// What is asked for may not be permitted, and is not taken then.
	checkTold(t, "not permitted", told{"login 0", "0"}, told{"centre 0 0", "0"}, told{"reply 0 1", "0"}, told{"ask 0 0 0 6 255 40", "0"}, told{"centre 0 2", "0"}, told{"reply 0 3", "0"}, told{"apply 0 1 2", "0"}, told{"serve 0 4", "3"}, told{"accepts", "0"})
}

func TestForgesOfADesk(t *testing.T) {
	for _, line := range []string{"forge", "forge z", "forge zz", "forge 6", "forge 6b0", "forge 6B02", "forge 6b 02", "forge 0x61", "forge -1", "forge 6b02 ", "forge  6b02", "forge  ", " forge 6b02", "forge 6b02 6b02", "forge \x6b\x02", "forge 6102686", "forge \t"} {
		checkWhat(t, line)
	}
	checkTold(t, "what Unhex takes", told{"forge ", "3"}, told{"net 0", "none"}, told{"forge 00", "3"}, told{"forge 6b", "3"}, told{"forge 6102", "3"}, told{"forge 61026869", "0"}, told{"net 0", "61026869"},
		told{"forge 61026869", "0"}, told{"net 1", "61026869"}, told{"forge 6c00", "0"}, told{"net 2", "6c00"}, told{"forge 6b01", "3"}, told{"leak 1", "0"}, told{"forge 6b01", "0"}, told{"net 3", "6b01"}, told{"forge 7301", "3"}, told{"forge 73016100", "0"}, told{"forge 73026100", "3"}, told{"net 5", "none"})
	// The empty one that a blank at the end leaves is a text that is no term; with one more blank there is a word too many.
	checkTold(t, "the empty HEX", told{"forge ", "3"}, told{"forge", "what"}, told{"forge  ", "what"}, told{"forge", "what"})
	checkTold(t, "digits only", told{"forge 6100", "0"}, told{"forge 610130", "0"}, told{"forge 999999999999", "3"}, told{"forge 9999999999999", "what"})
	rows := []told{}
	for i := range 50 {
		rows = append(rows, told{"forge 6101" + impl.Hex(string([]byte{byte(i)})), "0"})
	}
	checkTold(t, "as many as can be sent", append(rows, told{"forge 6100", "3"}, told{"login 0", "3"}, told{"net 49", "610131"}, told{"net 50", "none"})...)
}

func TestFlowsOfADesk(t *testing.T) {
	// A Rest that does not permit it has a Flow to its end, too.
	checkTold(t, "permitted or not", told{"flow 0 2 7 255 40 6", "yes"}, told{"accepts", "1 0 2 6"}, told{"creds 0", "4"}, told{"flow 0 2 3 255 40 6", "no"}, told{"accepts", "0"}, told{"creds 0", "4"}, told{"net 9", "none"},
		told{"flow 0 2 4 64 0 6", "yes"}, told{"accepts", "1 0 2 6"}, told{"flow 0 2 4 191 0 6", "no"}, told{"accepts", "0"}, told{"flow 5 0 1 1 100000 0", "yes"}, told{"accepts", "1 5 0 0"}, told{"creds 0", "0"}, told{"creds 5", "4"},
		told{"flow 4 1 0 255 40 6", "no"}, told{"creds 4", "2"}, told{"flow 4 1 2 128 40 7", "yes"}, told{"accepts", "1 4 1 7"}, told{"truth", "yes"})
	// The world that was there is gone, with its time, messages, Creds, Accepts, leaks and Caches.
	begun := []told{{"tick 0", "0"}, {"net 0", "none"}, {"creds 0", "0"}, {"creds 3", "0"}, {"accepts", "0"}, {"knows 2", "no"}, {"leak 2", "0"}, {"truth", "yes"}, {"login 0", "0"}, {"net 0", impl.Hex(impl.LoginReq(0, 0, 101))}, {"centre 0 0", "0"}, {"reply 0 1", "0"}}
	for _, line := range []string{
		"flow -1 2 7 255 40 6", "flow 6 2 7 255 40 6", "flow 0 -1 7 255 40 6", "flow 0 3 7 255 40 6", "flow 0 2 -1 255 40 6", "flow 0 2 8 255 40 6", "flow 0 2 7 -1 40 6", "flow 0 2 7 256 40 6",
		"flow 0 2 7 255 -1 6", "flow 0 2 7 255 100001 6", "flow 0 2 7 255 40 -1", "flow 0 2 7 255 40 8", "flow 999999999 999999999 999999999 999999999 999999999 999999999", "flow -1 -1 -1 -1 -1 -1",
	} {
		checkTold(t, line, slices.Concat(someLines(), []told{{line, "no"}}, begun)...)
		checkTold(t, line+", at the beginning", slices.Concat([]told{{line, "no"}}, begun)...)
		checkTold(t, line+", behind a flow", slices.Concat([]told{{"flow 0 0 7 255 40 6", "yes"}, {"restart 0", "0"}, {line, "no"}}, begun)...)
	}
	// A service that was quiet takes what is asked for in the new world.
	checkTold(t, "a flow of a new world", slices.Concat(someLines(), []told{
		{"restart 0", "0"}, {"restart 1", "0"}, {"flow 0 1 7 255 40 3", "yes"}, {"tick 0", "0"}, {"accepts", "1 0 1 3"}, {"creds 0", "3"}, {"creds 3", "0"}, {"net 0", impl.Hex(impl.LoginReq(0, 0, 101))}, {"net 6", plainMessage("flow 0 1 7 255 40 3", 6)}, {"net 7", "none"},
		{"knows 2", "no"}, {"truth", "yes"}, {"tick 3", "3"}, {"apply 0 2 4", "0"}, {"serve 1 7", "0"}, {"accepts", "2 0 1 4"}, {"serve 1 6", "3"}, {"serve 1 7", "3"}, {"login 0", "0"}, {"net 8", impl.Hex(impl.LoginReq(0, 3, 109))},
	})...)
	// Where a word is no number nothing is begun.
	checkTold(t, "no new world", slices.Concat(someLines(), []told{{"flow 0 2 7 255 40 x", "what"}, {"flow 0 2 7 255 40", "what"}, {"accepts", "1 0 0 6"}, {"tick 0", "2"}})...)
}

// plainMessage is what net answers behind a line.
func plainMessage(line string, m int) string {
	w := plainDeskWorld()
	plainAnswer(&w, line)
	return impl.Hex(w.Net[m])
}

func TestMessagesOfADesk(t *testing.T) {
	first, second := impl.Hex(impl.LoginReq(4, 0, 101)), impl.Hex(impl.LoginReq(2, 7, 102))
	checkTold(t, "messages", told{"net 0", "none"}, told{"net -1", "none"}, told{"login 4", "0"}, told{"net -1", "none"}, told{"net 0", first}, told{"net 1", "none"},
		told{"tick 7", "7"}, told{"login 2", "0"}, told{"net 0", first}, told{"net 1", second}, told{"net 2", "none"}, told{"net 50", "none"}, told{"login 6", "2"}, told{"login -1", "2"}, told{"net 2", "none"})
	given := impl.Centre(plainDeskConfig(), 2, 7, 103, impl.LoginReq(2, 7, 102))
	checkTold(t, "an answer", told{"login 4", "0"}, told{"tick 7", "7"}, told{"login 2", "0"}, told{"centre 2 1", "0"}, told{"net 2", impl.Hex(given.Term)}, told{"centre 1 0", "3"}, told{"centre 2 3", "2"}, told{"centre 2 -1", "2"}, told{"centre 3 1", "2"}, told{"centre -1 1", "2"})
}

func TestCredsOfADesk(t *testing.T) {
	checkTold(t, "Creds", told{"login 1", "0"}, told{"login 4", "0"}, told{"centre 1 0", "0"}, told{"centre 1 1", "0"}, told{"creds 1", "0"}, told{"reply 1 3", "3"}, told{"reply 0 2", "3"}, told{"reply 6 2", "2"}, told{"reply 1 4", "2"}, told{"reply 1 -1", "2"},
		told{"reply 1 2", "0"}, told{"reply 1 2", "3"}, told{"creds 1", "1"}, told{"creds 4", "0"}, told{"reply 4 3", "0"}, told{"creds 4", "1"}, told{"creds 1", "1"},
		told{"ask 1 0 1 7 255 40", "0"}, told{"centre 1 4", "0"}, told{"reply 1 5", "0"}, told{"creds 1", "2"}, told{"creds 4", "1"}, told{"creds 0", "0"}, told{"creds -1", "0"}, told{"creds 6", "0"}, told{"creds 101", "0"})
	// Service 0 asks in the name of user 0, and an adversary that has its key answers: the Cred is the service's, though its Client is the user.
	answer := list(impl.Nums([]int{3, 109}), "a\x00", impl.ShowGrant(impl.Grant{Key: 107, Service: 1, Nonce: 109, Rest: rest(7, 255, 40)}, 107))
	checkTold(t, "in a user's name", slices.Concat(someLines(), []told{
		{"ask 3 2 1 7 255 40 1", "0"}, {"forge " + impl.Hex(answer), "3"}, {"leak 11", "0"}, {"knows 107", "yes"}, {"forge " + impl.Hex(answer), "0"}, {"creds 3", "1"}, {"reply 3 10", "0"}, {"creds 3", "2"}, {"creds 0", "2"}, {"truth", "yes"},
	})...)
}

func TestWhatADeskKnows(t *testing.T) {
	checkTold(t, "leaks", told{"knows 1", "no"}, told{"leak 1", "0"}, told{"knows 1", "yes"}, told{"leak 1", "3"}, told{"leak 4", "2"}, told{"leak 0", "2"}, told{"leak -1", "2"}, told{"leak 31", "2"}, told{"leak 32", "0"}, told{"leak 101", "2"},
		told{"knows 2", "no"}, told{"knows 0", "no"}, told{"knows -1", "no"}, told{"knows 31", "no"}, told{"knows 32", "yes"}, told{"knows 1000000", "no"}, told{"knows 1000001", "no"})
	// The key of a ticket is in its Grant, and in the ticket itself.
	for _, leaked := range []string{"1", "21"} {
		checkTold(t, "by "+leaked, told{"login 0", "0"}, told{"centre 0 0", "0"}, told{"knows 102", "no"}, told{"knows 101", "no"}, told{"leak 2", "0"}, told{"leak 22", "0"}, told{"knows 102", "no"}, told{"leak " + leaked, "0"}, told{"knows 102", "yes"}, told{"knows 101", "no"}, told{"truth", "yes"})
	}
	// What is leaked ahead of it opens what is sent later, and one key leads to the next one.
	checkTold(t, "from key to key", told{"leak 1", "0"}, told{"flow 0 2 7 255 40 6", "yes"}, told{"knows 1", "no"}, told{"knows 102", "no"}, told{"knows 104", "no"}, told{"knows 106", "no"}, told{"knows 108", "no"},
		told{"leak 13", "0"}, told{"knows 108", "yes"}, told{"knows 106", "no"}, told{"truth", "yes"}, told{"leak 32", "0"}, told{"knows 104", "yes"}, told{"knows 106", "yes"}, told{"knows 102", "no"}, told{"truth", "yes"},
		told{"leak 1", "0"}, told{"knows 102", "yes"}, told{"accepts", "1 0 2 6"}, told{"truth", "yes"})
}

// A service whose key is leaked takes what an adversary puts together; it is not Honest, so that what is said is true all the same.
func TestTruthOfADesk(t *testing.T) {
	x := impl.Ticket{Client: 1, Service: 0, Key: 11, Rest: rest(7, 255, 90)}
	forged := list(impl.Nums([]int{4, 0, 5}), rawTicket(x, 11), rawAuth(auth(1, 0, 9), 11))
	checkTold(t, "truth", told{"truth", "yes"}, told{"forge " + impl.Hex(forged), "3"}, told{"leak 11", "0"}, told{"truth", "yes"}, told{"forge " + impl.Hex(forged), "0"}, told{"serve 1 0", "3"}, told{"serve 0 0", "0"}, told{"serve 0 0", "3"},
		told{"accepts", "1 1 0 5"}, told{"truth", "yes"}, told{"flow 1 0 7 255 40 2", "yes"}, told{"truth", "yes"}, told{"leak 11", "0"}, told{"truth", "yes"}, told{"knows 11", "yes"})
	rows := []told{{"flow 0 2 7 255 40 6", "yes"}}
	for _, key := range keysFromTheBeginning {
		rows = append(rows, told{"leak " + strconv.Itoa(key), "0"}, told{"truth", "yes"}, told{"knows " + strconv.Itoa(key), "yes"})
	}
	checkTold(t, "all leaks", rows...)
}

func checkText(t *testing.T, what, text, want string) {
	t.Helper()
	if got := impl.Desk(text); got != want {
		t.Errorf("%s: a text of %d bytes is answered by %.60q, not %.60q", what, len(text), got, want)
	}
}

func TestTextsThatAreTooLong(t *testing.T) {
	fill := func(text string, count int, with string) string {
		return text + strings.Repeat(with, count-len(text))
	}
	for _, with := range []string{"x", " ", "0", "\xff", "-"} {
		checkText(t, "one line", fill("", 19999, with), "what\n")
		checkText(t, "one line", fill("", 20000, with), "what\n")
		checkText(t, "one line", fill("", 20001, with), "")
		checkText(t, "one line, ended", fill("", 19999, with)+"\n", "what\n")
		checkText(t, "one line, ended", fill("", 20000, with)+"\n", "")
		checkText(t, "behind others", fill("tick 3\n\naccepts\n", 20000, with), "3\n0\nwhat\n")
		checkText(t, "behind others", fill("tick 3\n\naccepts\n", 20001, with), "")
	}
	checkText(t, "a long HEX", fill("forge ", 20000, "6"), "3\n")
	checkText(t, "a longer HEX", fill("forge ", 20002, "6"), "")
	checkText(t, "a long HEX and a line", fill("forge ", 19992, "6")+"\ntick 77", "3\n77\n")
	checkText(t, "a long HEX and a line, ended", fill("forge ", 19992, "6")+"\ntick 77\n", "")
	checkText(t, "far too long", strings.Repeat("accepts\n", 100000), "")
	checkText(t, "far too long, and without a line that has a byte", strings.Repeat("\n", 1000000), "")
	// The longest text of the most lines.
	lines := strings.Repeat("forge "+strings.Repeat("6", 159)+"\n", 119)
	checkText(t, "both limits", fill(lines+"tick ", 20000, "1"), strings.Repeat("what\n", 120))
	checkText(t, "both limits", fill(lines+"forge ", 20000, "6"), strings.Repeat("what\n", 119)+"3\n")
	checkText(t, "both limits, and a byte more", fill(lines+"forge ", 20001, "6"), "")
}

func TestTextsOfTooManyLines(t *testing.T) {
	many := func(count int, line string) string { return strings.Repeat(line+"\n", count) }
	checkText(t, "120 lines", many(120, "accepts"), many(120, "0"))
	checkText(t, "120 lines, the last one without its end", many(119, "accepts")+"accepts", many(120, "0"))
	checkText(t, "121 lines", many(121, "accepts"), "")
	checkText(t, "121 lines, the last one without its end", many(120, "accepts")+"accepts", "")
	checkText(t, "121 lines, the last one without a byte", many(120, "accepts")+"\n", "")
	checkText(t, "121 lines, the first one without a byte", "\n"+many(120, "accepts"), "")
	checkText(t, "120 lines, the first one without a byte", "\n"+many(119, "accepts"), many(119, "0"))
	checkText(t, "120 lines without a byte", many(120, ""), "")
	checkText(t, "119 of them, and one that has a byte", many(119, "")+"accepts", "0\n")
	checkText(t, "119 of them, and one that has a byte and its end", many(119, "")+"accepts\n", "0\n")
	checkText(t, "120 of them, and one that has a byte", many(120, "")+"accepts", "")
	checkText(t, "one, and 119 that have none", "accepts\n"+many(119, ""), "0\n")
	checkText(t, "one, and 120 that have none", "accepts\n"+many(120, ""), "")
	checkText(t, "every other one", many(60, "accepts\n"), many(60, "0"))
	checkText(t, "every other one, and one more", many(60, "accepts\n")+"x", "")
	checkText(t, "121 of one blank", many(121, " "), "")
	checkText(t, "120 of one blank", many(120, " "), many(120, "what"))
}

// More acts than a script may have can not come of so few lines, but ticks can.
func TestDeskPlaysMoreThanAScript(t *testing.T) {
	checkTold(t, "more acts", told{"tick 200", "200"}, told{"login 0", "0"}, told{"tick 5", "205"}, told{"centre 0 0", "0"}, told{"reply 0 1", "0"}, told{"tick 50", "255"}, told{"ask 0 0 0 7 255 300", "0"}, told{"centre 0 2", "0"},
		told{"reply 0 3", "0"}, told{"apply 0 1 0", "0"}, told{"serve 0 4", "0"}, told{"tick 1", "256"}, told{"apply 0 1 0", "0"}, told{"serve 0 5", "3"}, told{"accepts", "1 0 0 0"})
}

// lineOf is the line that stands for an act; one of a kind that there is not has a name that is none.
func lineOf(a impl.Act) string {
	switch a.Kind {
	case impl.AcForge:
		return "forge " + impl.Hex(a.Text)
	case impl.AcAsk:
		line := numbered("ask", a.A, a.B, a.C, a.Rest.Servers, a.Rest.Ops, a.Rest.End)
		if a.D != 0 {
			line += " " + strconv.Itoa(a.D)
		}
		return line
	case impl.AcApply:
		return numbered("apply", a.A, a.B, a.C)
	case impl.AcCentre, impl.AcReply, impl.AcServe:
		return numbered(map[int]string{4: "centre", 5: "reply", 7: "serve"}[a.Kind], a.A, a.B)
	}
	name, ok := map[int]string{1: "tick", 2: "login", 8: "leak", 10: "restart"}[a.Kind]
	if !ok {
		name = "act"
	}
	return numbered(name, a.A)
}

func numbered(name string, numbers ...int) string {
	for _, n := range numbers {
		name += " " + strconv.Itoa(n)
	}
	return name
}

func anyQuestion(r *rand.Rand, w impl.World) string {
	switch r.Intn(5) {
	case 0:
		return numbered("net", r.Intn(len(w.Net)+3)-1)
	case 1:
		return numbered("creds", r.Intn(8)-1)
	case 2:
		return "accepts"
	case 3:
		if reached := impl.Reach(w.Known); len(reached) > 0 && r.Intn(2) == 0 {
			return numbered("knows", anyOf(r, reached))
		}
		return numbered("knows", []int{anyOf(r, keysFromTheBeginning), 101 + r.Intn(20)}[r.Intn(2)])
	}
	return "truth"
}

// anyBytes are of letters, digits and blanks, or any at all (but no byte 10).
func anyBytes(r *rand.Rand) string {
	words := []string{"tick", "login", "net", "forge", "truth", "flow", "accepts", " ", " ", " ", "0", "1", "-", "7", "6b", "x", "\r", "\xff"}
	line := ""
	for range r.Intn(8) {
		line += anyOf(r, words)
	}
	return line
}

// turnedLine is a line with a byte too few, one too many, or one that is another.
func turnedLine(r *rand.Rand, line string) string {
	if line == "" {
		return ""
	}
	at, other := r.Intn(len(line)), string(" 0-x17"[r.Intn(6)])
	switch r.Intn(3) {
	case 0:
		return line[:at] + line[at+1:]
	case 1:
		return line[:at] + other + line[at:]
	}
	return line[:at] + other + line[at+1:]
}

// anyLine is mostly one that is done in this world.
func anyLine(r *rand.Rand, w impl.World, wrong int) string {
	line := ""
	switch r.Intn(16) {
	case 0:
		return ""
	case 1, 2, 3:
		line = anyQuestion(r, w)
	case 4:
		line = anyBytes(r)
	case 5:
		line = numbered("tick", []int{1, 1, 2, 5, -1, 0}[r.Intn(6)])
	case 6:
		if r.Intn(4) > 0 {
			return lineOf(nextStep(r, w))
		}
		line = numbered("flow", r.Intn(6), r.Intn(3), []int{7, r.Intn(8)}[r.Intn(2)], []int{255, r.Intn(256)}[r.Intn(2)], r.Intn(60), r.Intn(8+r.Intn(2)))
	case 7:
		line = lineOf(forging(anyPlot(r, w)))
	default:
		line = lineOf(anyAct(r, w, wrong))
	}
	if wrong > 0 && r.Intn(wrong) == 0 {
		return turnedLine(r, line)
	}
	return line
}

// anyText is lines, and what plain words answer to them.
func anyText(r *rand.Rand, wrong int, count map[string]int) ([]string, string) {
	var lines []string
	w, answers, room := plainDeskWorld(), "", 20000
	for len(lines) < 120 {
		line := anyLine(r, w, wrong)
		room -= len(line) + 1
		if room < 0 {
			break
		}
		lines = append(lines, line)
		if line == "" {
			count["without a byte"]++
			continue
		}
		answer := plainAnswer(&w, line)
		answers += answer + "\n"
		// Of Accepts how many there are counts, of messages that there is one.
		if answer, _, _ = strings.Cut(answer, " "); len(answer) > 8 {
			answer = "long"
		}
		name, _, _ := strings.Cut(line, " ")
		if strings.Contains(" tick login centre reply serve leak restart ask apply forge flow net creds accepts knows truth ", " "+name+" ") {
			count[name+": "+answer]++
		}
	}
	return lines, answers
}

// Promise 13, of texts made at random.
func TestAnyDesk(t *testing.T) {
	r := rand.New(rand.NewSource(130))
	count := map[string]int{}
	for i := range 240 {
		lines, want := anyText(r, []int{0, 2, 10}[i%3], count)
		text := joined(lines)
		got := impl.Desk(text)
		if got != want {
			t.Fatalf("Desk(%q) = %q, not %q", text, got, want)
		}
		checkAsMany(t, "any", lines, got)
		for range 5 {
			checkBeginning(t, "any", lines, r.Intn(len(lines)+1), got)
		}
		checkOtherLinesBehind(t, r, lines, got)
	}
	for _, what := range []string{
		"without a byte", "login: 0", "centre: 0", "centre: 3", "reply: 0", "reply: 3", "ask: 0", "ask: 2", "ask: 3", "apply: 0", "apply: 3", "serve: 0", "serve: 3", "leak: 0", "leak: 3", "forge: 0", "forge: 3", "restart: 0",
		"flow: yes", "flow: no", "net: long", "net: none", "creds: 0", "creds: 1", "creds: 2", "accepts: 0", "accepts: 1", "accepts: 2", "accepts: 3", "knows: yes", "knows: no", "truth: yes", "tick: 0", "tick: 1",
	} {
		if count[what] < 4 {
			t.Errorf("too few are %s: %v", what, count)
		}
	}
	for _, name := range []string{"login", "centre", "reply", "ask", "apply", "serve", "leak", "forge", "restart", "flow", "net", "accepts", "truth", "tick"} {
		if count[name+": what"] < 4 {
			t.Errorf("too few of %s are answered by what: %v", name, count)
		}
	}
}

// checkOtherLinesBehind asks that, whatever stands behind some lines, their answers stay.
func checkOtherLinesBehind(t *testing.T, r *rand.Rand, lines []string, all string) {
	t.Helper()
	ahead := lines[:r.Intn(len(lines)+1)]
	some := impl.Desk(joined(ahead))
	for _, behind := range []string{"flow 0 0 7 255 40 1\n", "\n", "leak 11\n", " ", "tick 9", "accepts\n\nhello\n"} {
		if len(joined(ahead)+behind) > 20000 || len(plainLines(joined(ahead)+behind)) > 120 {
			continue
		}
		if got := impl.Desk(joined(ahead) + behind); !strings.HasPrefix(got, some) {
			t.Fatalf("%q behind %q: %q, not %q ahead", behind, ahead, got, some)
		}
	}
	// A text that is cut anywhere tells of the lines ahead of the cut what it told of them.
	text := joined(lines)
	cut := text[:r.Intn(len(text)+1)]
	whole := cut[:strings.LastIndexByte(cut, '\n')+1]
	if got := impl.Desk(cut); !strings.HasPrefix(got, impl.Desk(whole)) || !strings.HasPrefix(all, impl.Desk(whole)) {
		t.Fatalf("%q: %q", cut, got)
	}
}

func TestDeskKeepsNothing(t *testing.T) {
	text := joined(linesIn(someLines())) + joined(probes())
	first := impl.Desk(text)
	impl.Desk("leak 21\ntick 200\nflow 0 2 7 255 40 6\n")
	impl.Desk(strings.Repeat("x", 20001))
	if again := impl.Desk(text); again != first || first == "" {
		t.Errorf("%q, then %q", first, again)
	}
	if got := impl.Desk("accepts\ntick 0\nnet 0\ncreds 0\nknows 21\n"); got != "0\n0\nnone\n0\nno\n" {
		t.Errorf("behind other texts: %q", got)
	}
}
