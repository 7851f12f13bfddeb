package tests

import (
	"math"
	"math/rand"
	"slices"
	"strings"
	"testing"

	"loop.example/g00769/impl"
)

func row(who, key, life int) impl.Row { return impl.Row{Who: who, Key: key, Life: life} }

func offRow(who, key, life int) impl.Row {
	return impl.Row{Who: who, Key: key, Life: life, Off: true}
}

func base(seq int, rows ...impl.Row) impl.Base { return impl.Base{Seq: seq, Rows: rows} }

func put(who, key, life int) impl.StOp { return impl.StOp{Kind: 1, Row: row(who, key, life)} }

func drop(who int) impl.StOp { return impl.StOp{Kind: 2, Row: impl.Row{Who: who}} }

func shut(who int) impl.StOp { return impl.StOp{Kind: 3, Row: impl.Row{Who: who}} }

// rowsOf is a row of each of these, with other Keys and Lives; each third one is Off.
func rowsOf(whos ...int) []impl.Row {
	var l []impl.Row
	for i, who := range whos {
		l = append(l, impl.Row{Who: who, Key: 100 + i, Life: 500 - i, Off: i%3 == 2})
	}
	return l
}

func sameBase(a, b impl.Base) bool { return a.Seq == b.Seq && slices.Equal(a.Rows, b.Rows) }

// Stores by plain words: what the tests hold the program's answers against.

func plainRowOk(x impl.Row) bool {
	return x.Who >= 0 && x.Who <= 99 && x.Key >= 1 && x.Key <= 1000000 && x.Life >= 1 && x.Life <= 100000
}

func plainBaseOk(b impl.Base) bool {
	for i, x := range b.Rows {
		if !plainRowOk(x) || i > 0 && b.Rows[i-1].Who >= x.Who {
			return false
		}
	}
	return len(b.Rows) <= 12 && b.Seq >= 0 && b.Seq <= 100000
}

// plainBaseDo has a place for each Who that may be; where none is, the Key is 0.
func plainBaseDo(b impl.Base, o impl.StOp) (impl.Base, bool) {
	if !plainBaseOk(b) {
		return impl.Base{}, false
	}
	var places [100]impl.Row
	for _, x := range b.Rows {
		places[x.Who] = x
	}
	who := o.Row.Who
	there := who >= 0 && who <= 99 && places[who].Key > 0
	switch {
	case b.Seq == 100000:
		return b, false
	case o.Kind == 1 && plainRowOk(o.Row) && !o.Row.Off && (there || len(b.Rows) < 12):
		places[who] = o.Row
	case o.Kind == 2 && there:
		places[who] = impl.Row{}
	case o.Kind == 3 && there:
		places[who].Off = true
	default:
		return b, false
	}
	next := base(b.Seq + 1)
	for _, x := range places {
		if x.Key > 0 {
			next.Rows = append(next.Rows, x)
		}
	}
	return next, true
}

func plainBaseAll(b impl.Base, l []impl.StOp) (impl.Base, int) {
	if !plainBaseOk(b) {
		return impl.Base{}, 0
	}
	first := b.Seq
	for _, o := range l {
		b, _ = plainBaseDo(b, o)
	}
	return b, b.Seq - first
}

// plainFollow does what stands in the log from number Seq + 1 on, until one cannot be done.
func plainFollow(b impl.Base, log []impl.StOp) (impl.Base, bool) {
	if !plainBaseOk(b) {
		return impl.Base{}, false
	}
	behind, ok := b, b.Seq <= len(log)
	for number := 1; number <= len(log) && ok; number++ {
		if number > b.Seq {
			behind, ok = plainBaseDo(behind, log[number-1])
		}
	}
	if !ok {
		return b, false
	}
	return behind, true
}

func plainShowBase(b impl.Base) string {
	if !plainBaseOk(b) {
		return ""
	}
	return rawBase(b)
}

// rawBase is the text of any numbers from 0 to below 2 to the 21, right or not.
func rawBase(b impl.Base) string {
	s := plainLength(b.Seq) + plainLength(len(b.Rows))
	for _, x := range b.Rows {
		s += plainLength(x.Who) + plainLength(x.Key) + plainLength(x.Life)
		if x.Off {
			s += "\x01"
		} else {
			s += "\x00"
		}
	}
	return s
}

func plainReadBase(s string) (impl.Base, bool) {
	// Behind what is no number there is nothing, and -1 is right nowhere.
	next := func() int {
		n, used := plainReadLength(s)
		if used == 0 {
			s = ""
			return -1
		}
		s = s[used:]
		return n
	}
	b := base(next())
	count := next()
	if count < 0 || count > 12 {
		return impl.Base{}, false
	}
	for range count {
		x := row(next(), next(), next())
		if s == "" || s[0] > 1 {
			return impl.Base{}, false
		}
		x.Off, s = s[0] == 1, s[1:]
		b.Rows = append(b.Rows, x)
	}
	if s != "" || !plainBaseOk(b) {
		return impl.Base{}, false
	}
	return b, true
}

// baseWithRoom is the base with spare room behind its rows, and a question whether that and the rows are as they were.
func baseWithRoom(b impl.Base) (impl.Base, func() bool) {
	var asked []func() bool
	b.Rows = roomBehind(&asked, b.Rows, row(-7, -8, -9))
	return b, asked[0]
}

func opsWithRoom(l []impl.StOp) ([]impl.StOp, func() bool) {
	var asked []func() bool
	l = roomBehind(&asked, l, impl.StOp{Kind: -7})
	return l, asked[0]
}

func checkBasesApart(t *testing.T, what string, got, handed impl.Base, l []impl.StOp) {
	t.Helper()
	var answered, given memories
	addList(&answered, "rows", got.Rows)
	addList(&given, "the base", handed.Rows)
	addList(&given, "the operations", l)
	checkApart(t, what, answered, given)
}

// checkBase holds what is said and shown of a base against plain words; asks that it is not changed, and that it is read back where it is right.
func checkBase(t *testing.T, what string, b impl.Base) bool {
	t.Helper()
	handed, asItWas := baseWithRoom(b)
	right, shown := impl.BaseOk(handed), impl.ShowBase(handed)
	if want := plainBaseOk(b); right != want {
		t.Fatalf("%s: BaseOk(%v) = %v", what, b, right)
	}
	if want := plainShowBase(b); shown != want {
		t.Fatalf("%s: ShowBase(%v) = %q, not %q", what, b, shown, want)
	}
	if right {
		checkReadBase(t, what, shown, b, true)
	}
	if !asItWas() {
		t.Fatalf("%s: %v was changed", what, b)
	}
	return right
}

func checkBaseOk(t *testing.T, what string, want bool, b impl.Base) {
	t.Helper()
	if got := checkBase(t, what, b); got != want {
		t.Errorf("%s: BaseOk(%v) = %v", what, b, got)
	}
	if want {
		return
	}
	ops := []impl.StOp{put(50, 1, 1), put(0, 77, 9), drop(0), drop(5), shut(0), shut(5), {}}
	for _, x := range b.Rows[:min(len(b.Rows), 13)] {
		ops = append(ops, impl.StOp{Kind: 1, Row: x}, drop(x.Who), shut(x.Who))
	}
	for _, o := range ops {
		if got := checkOp(t, what, b, o, false); !sameBase(got, impl.Base{}) {
			t.Errorf("%s: BaseDo(%v, %v) = %v", what, b, o, got)
		}
	}
	for _, l := range [][]impl.StOp{nil, ops, ops[:1]} {
		if got, count := checkAll(t, what, b, l); count != 0 || !sameBase(got, impl.Base{}) {
			t.Errorf("%s: BaseAll(%v, %v) = %v, %d", what, b, l, got, count)
		}
		if got := checkFollow(t, what, b, l, false); !sameBase(got, impl.Base{}) {
			t.Errorf("%s: Follow(%v, %v) = %v", what, b, l, got)
		}
	}
}

func checkOp(t *testing.T, what string, b impl.Base, o impl.StOp, wantOk bool) impl.Base {
	t.Helper()
	want, plain := plainBaseDo(b, o)
	if plain != wantOk {
		t.Fatalf("%s: the chapter says of %v with %v: %v", what, b, o, plain)
	}
	handed, asItWas := baseWithRoom(b)
	got, ok := impl.BaseDo(handed, o)
	if ok != wantOk || !sameBase(got, want) {
		t.Fatalf("%s: BaseDo(%v, %v) = %v, %v, not %v, %v", what, b, o, got, ok, want, wantOk)
	}
	if !impl.BaseOk(got) {
		t.Fatalf("%s: BaseDo(%v, %v) = %v is not right", what, b, o, got)
	}
	checkBasesApart(t, what, got, handed, nil)
	if !asItWas() {
		t.Fatalf("%s: %v was changed by %v", what, b, o)
	}
	return got
}

func checkAll(t *testing.T, what string, b impl.Base, l []impl.StOp) (impl.Base, int) {
	t.Helper()
	want, wantCount := plainBaseAll(b, l)
	handed, asItWas := baseWithRoom(b)
	ops, asTheyWere := opsWithRoom(l)
	got, count := impl.BaseAll(handed, ops)
	if count != wantCount || !sameBase(got, want) {
		t.Fatalf("%s: BaseAll(%v, %v) = %v, %d, not %v, %d", what, b, l, got, count, want, wantCount)
	}
	checkBasesApart(t, what, got, handed, ops)
	if !asItWas() || !asTheyWere() {
		t.Fatalf("%s: %v or %v was changed", what, b, l)
	}
	return got, count
}

func checkFollow(t *testing.T, what string, b impl.Base, log []impl.StOp, wantOk bool) impl.Base {
	t.Helper()
	want, plain := plainFollow(b, log)
	if plain != wantOk {
		t.Fatalf("%s: the chapter says of %v that follows %v: %v", what, b, log, plain)
	}
	handed, asItWas := baseWithRoom(b)
	ops, asTheyWere := opsWithRoom(log)
	got, ok := impl.Follow(handed, ops)
	if ok != wantOk || !sameBase(got, want) {
		t.Fatalf("%s: Follow(%v, %v) = %v, %v, not %v, %v", what, b, log, got, ok, want, wantOk)
	}
	if ok && got.Seq != len(log) {
		t.Fatalf("%s: behind %d operations it is %v", what, len(log), got)
	}
	checkBasesApart(t, what, got, handed, ops)
	if !asItWas() || !asTheyWere() {
		t.Fatalf("%s: %v or %v was changed", what, b, log)
	}
	return got
}

func checkReadBase(t *testing.T, what, s string, want impl.Base, wantOk bool) {
	t.Helper()
	got, ok := impl.ReadBase(s)
	if ok != wantOk || !sameBase(got, want) {
		t.Fatalf("%s: ReadBase(%q) = %v, %v, not %v, %v", what, s, got, ok, want, wantOk)
	}
	if ok && (impl.ShowBase(got) != s || !impl.BaseOk(got)) {
		t.Fatalf("%s: %q is read as %v, which is shown as %q", what, s, got, impl.ShowBase(got))
	}
	// Rows of its own for each answer.
	overwritten(got.Rows, row(-7, -8, -9))
	again, ok := impl.ReadBase(s)
	if ok != wantOk || !sameBase(again, want) {
		t.Fatalf("%s: ReadBase(%q) is %v, %v once more, not %v, %v", what, s, again, ok, want, wantOk)
	}
}

// checkAnyBaseText holds what is read of any text against plain words, and says whether it is taken.
func checkAnyBaseText(t *testing.T, what, s string) bool {
	t.Helper()
	want, ok := plainReadBase(s)
	checkReadBase(t, what, s, want, ok)
	return ok
}

// fullBase is 12 rows, with gaps and without among their Whos.
func fullBase(seq int) impl.Base {
	return base(seq, rowsOf(0, 1, 2, 7, 9, 10, 40, 50, 60, 97, 98, 99)...)
}

func someBases() []impl.Base {
	return []impl.Base{
		{}, base(1), base(100000),
		base(0, row(0, 1, 1)), base(100000, offRow(99, 1000000, 100000)), base(127, row(5, 7, 9)),
		base(128, offRow(5, 127, 128), row(6, 128, 127)),
		base(16383, row(1, 16383, 16384), row(98, 16384, 16383)),
		base(16384, row(3, 50, 60), offRow(7, 50, 60), row(20, 50, 60)),
		fullBase(0), fullBase(60), fullBase(99999), fullBase(100000),
		base(5, rowsOf(numbersFrom(0, 11)...)...),
		base(5, rowsOf(numbersFrom(88, 12)...)...),
	}
}

// Rows that are not right, each for one reason alone.
func wrongRows() map[string]impl.Row {
	wrong := map[string]impl.Row{"the zero one": {}, "the zero one that is Off": {Off: true}, "all -1": row(-1, -1, -1)}
	for what, who := range map[string]int{"-1": -1, "100": 100, "101": 101, "1000": 1000, "5 in 8 bits": 256 + 5, "5 in 32 bits": 1<<32 + 5, "as great as an int goes": math.MaxInt, "as small as an int goes": math.MinInt} {
		wrong["Who "+what] = row(who, 5, 77)
	}
	for what, key := range map[string]int{"0": 0, "-1": -1, "MaxKey + 1": 1000001, "77 in 32 bits": 1<<32 + 77, "as great as an int goes": math.MaxInt, "as small as an int goes": math.MinInt} {
		wrong["Key "+what] = row(5, key, 77)
	}
	for what, life := range map[string]int{"0": 0, "-1": -1, "MaxTime + 1": 100001, "MaxKey": 1000000, "77 in 32 bits": 1<<32 + 77, "as great as an int goes": math.MaxInt, "as small as an int goes": math.MinInt} {
		wrong["Life "+what] = row(5, 77, life)
	}
	return wrong
}

// Bases of rows that are each right, but not together.
func wrongBases() map[string]impl.Base {
	swapped := fullBase(60)
	swapped.Rows[6], swapped.Rows[7] = swapped.Rows[7], swapped.Rows[6]
	turned := fullBase(60)
	slices.Reverse(turned.Rows)
	wrong := map[string]impl.Base{
		"13 rows":                          base(60, rowsOf(numbersFrom(0, 13)...)...),
		"a full one and one more":          base(60, append(fullBase(60).Rows[:11:11], row(98, 1, 1), row(99, 2, 1))...),
		"100 rows":                         base(60, rowsOf(numbersFrom(0, 100)...)...),
		"Whos that fall":                   base(60, rowsOf(3, 2)...),
		"Whos that fall, though Keys fall": base(60, row(3, 9, 9), row(2, 1, 1)),
		"Whos that fall at the end":        base(60, rowsOf(1, 2, 4, 3)...),
		"Whos that fall ahead":             base(60, rowsOf(2, 1, 3, 4)...),
		"the same Who twice":               base(60, rowsOf(3, 3)...),
		"the same Who twice, at the end":   base(60, rowsOf(0, 1, 2, 3, 3)...),
		"the same Who twice, ahead":        base(60, rowsOf(0, 0, 2, 3)...),
		"the same Who, another between":    base(60, rowsOf(3, 4, 3)...),
		"the same row twice":               base(60, row(3, 1, 50), row(3, 1, 50)),
		"the same row, once Off":           base(60, row(3, 1, 50), offRow(3, 1, 50)),
		"0 twice":                          base(60, rowsOf(0, 0)...),
		"99 twice":                         base(60, rowsOf(99, 99)...),
		"rows turned round":                turned,
		"two rows in each other's place":   swapped,
	}
	for what, seq := range map[string]int{"-1": -1, "MaxTime + 1": 100001, "MaxTime + 2": 100002, "5 in 32 bits": 1<<32 + 5, "as great as an int goes": math.MaxInt, "as small as an int goes": math.MinInt} {
		wrong["Seq "+what] = base(seq)
		wrong["Seq "+what+", with rows"] = fullBase(seq)
	}
	return wrong
}

func TestStoreConstants(t *testing.T) {
	if impl.MaxRows != 12 || impl.MaxOps != 60 {
		t.Error(impl.MaxRows, impl.MaxOps)
	}
	if impl.StPut != 1 || impl.StDrop != 2 || impl.StOff != 3 {
		t.Error(impl.StPut, impl.StDrop, impl.StOff)
	}
}

func TestBaseOk(t *testing.T) {
	for _, b := range someBases() {
		checkBaseOk(t, "some base", true, b)
	}
	for _, who := range []int{0, 1, 9, 10, 98, 99} {
		for _, key := range []int{1, 2, 127, 128, 16383, 16384, 999999, 1000000} {
			for _, life := range []int{1, 2, 127, 128, 16383, 16384, 99999, 100000} {
				checkBaseOk(t, "a row", true, base(9, row(who, key, life)))
				checkBaseOk(t, "a row that is Off", true, base(9, offRow(who, key, life)))
			}
		}
	}
	for count := range 20 {
		checkBaseOk(t, "so many rows", count <= 12, base(9, rowsOf(numbersFrom(20, count)...)...))
	}
	for _, seq := range []int{0, 1, 59, 60, 61, 127, 128, 99999, 100000} {
		checkBaseOk(t, "a Seq", true, base(seq))
		checkBaseOk(t, "a Seq, and rows", true, fullBase(seq))
	}
	for _, c := range []struct {
		what string
		b    impl.Base
	}{
		{"the same Key in all", base(3, row(1, 5, 5), row(2, 5, 5), row(9, 5, 5))},
		{"Keys and Lives that fall", base(3, row(1, 9, 9), row(2, 8, 8), row(3, 7, 7))},
		{"more rows than changes", fullBase(0)},
		{"all Off", base(3, offRow(1, 1, 1), offRow(2, 1, 1))},
		{"the least and the greatest", base(3, row(0, 1, 1), row(99, 1, 1))},
	} {
		checkBaseOk(t, c.what, true, c.b)
	}
}

func TestBasesThatAreNotRight(t *testing.T) {
	for what, x := range wrongRows() {
		checkBaseOk(t, what, false, base(60, x))
		checkBaseOk(t, what+" ahead", false, base(60, append([]impl.Row{x}, rowsOf(6, 7, 8)...)...))
		checkBaseOk(t, what+" behind", false, base(60, append(rowsOf(2, 3, 4), x)...))
		// Where all else rises as it should.
		checkBaseOk(t, what+" between", false, base(60, row(0, 1, 1), x, row(99, 1, 1)))
		checkBaseOk(t, what+" as the last one of 12", false, base(60, append(fullBase(0).Rows[:11:11], x)...))
		x.Off = true
		checkBaseOk(t, what+", and Off", false, base(60, x))
	}
	for what, b := range wrongBases() {
		checkBaseOk(t, what, false, b)
	}
	for at := range 11 {
		b := fullBase(60)
		b.Rows[at].Who = b.Rows[at+1].Who
		checkBaseOk(t, "a full one with a Who twice", false, b)
		b = fullBase(60)
		b.Rows[at], b.Rows[at+1] = b.Rows[at+1], b.Rows[at]
		checkBaseOk(t, "a full one, two in each other's place", false, b)
	}
}

func TestBaseDo(t *testing.T) {
	rows := []impl.Row{row(5, 50, 60), offRow(6, 51, 61), row(20, 52, 62), offRow(98, 53, 63)}
	b := base(7, rows...)
	as := func(l ...impl.Row) []impl.Row { return l }
	for _, c := range []struct {
		what string
		o    impl.StOp
		want []impl.Row
	}{
		{"a put ahead of all", put(0, 1, 2), as(row(0, 1, 2), rows[0], rows[1], rows[2], rows[3])},
		{"a put ahead of all by one", put(4, 1, 2), as(row(4, 1, 2), rows[0], rows[1], rows[2], rows[3])},
		{"a put among them", put(7, 1, 2), as(rows[0], rows[1], row(7, 1, 2), rows[2], rows[3])},
		{"a put behind all", put(99, 1, 2), as(rows[0], rows[1], rows[2], rows[3], row(99, 1, 2))},
		{"a put in the place of the first one", put(5, 1, 2), as(row(5, 1, 2), rows[1], rows[2], rows[3])},
		{"a put in the place of one among them", put(20, 1, 2), as(rows[0], rows[1], row(20, 1, 2), rows[3])},
		{"a put in the place of one that is Off", put(6, 1, 2), as(rows[0], row(6, 1, 2), rows[2], rows[3])},
		{"a put in the place of the last one, Off", put(98, 1, 2), as(rows[0], rows[1], rows[2], row(98, 1, 2))},
		{"a put of what is there", put(5, 50, 60), rows},
		{"a put of what is there, but for being Off", put(6, 51, 61), as(rows[0], row(6, 51, 61), rows[2], rows[3])},
		{"a put of the Key of another one", put(7, 50, 60), as(rows[0], rows[1], row(7, 50, 60), rows[2], rows[3])},
		{"a put of the greatest Key and Life", put(5, 1000000, 100000), as(row(5, 1000000, 100000), rows[1], rows[2], rows[3])},
		{"a put of the least Key and Life", put(5, 1, 1), as(row(5, 1, 1), rows[1], rows[2], rows[3])},
		{"a put that is Off", impl.StOp{Kind: 1, Row: offRow(7, 1, 2)}, nil},
		{"a put that is Off, in the place of one", impl.StOp{Kind: 1, Row: offRow(5, 1, 2)}, nil},
		{"a put that is Off, as it is there", impl.StOp{Kind: 1, Row: rows[1]}, nil},
		{"a put of Key 0, for who is there", put(5, 0, 2), nil},
		{"a put of Life 0, for who is there", put(5, 1, 0), nil},
		{"a drop of the first one", drop(5), rows[1:]},
		{"a drop of one that is Off", drop(6), as(rows[0], rows[2], rows[3])},
		{"a drop of one among them", drop(20), as(rows[0], rows[1], rows[3])},
		{"a drop of the last one", drop(98), rows[:3]},
		{"a drop of who is not there", drop(0), nil},
		{"a drop of who is not there, among them", drop(7), nil},
		{"a drop of who is not there, behind all", drop(99), nil},
		{"a drop of -1", drop(-1), nil},
		{"a drop of 100", drop(100), nil},
		{"a drop of what is 5 in 32 bits", drop(1<<32 + 5), nil},
		{"a drop of what is 5 in 8 bits", drop(256 + 5), nil},
		{"a drop, as great as an int goes", drop(math.MaxInt), nil},
		{"a drop, as small as an int goes", drop(math.MinInt), nil},
		{"the first one Off", shut(5), as(offRow(5, 50, 60), rows[1], rows[2], rows[3])},
		{"one among them Off", shut(20), as(rows[0], rows[1], offRow(20, 52, 62), rows[3])},
		{"one that is Off already", shut(6), rows},
		{"the last one, Off already", shut(98), rows},
		{"who is not there Off", shut(0), nil},
		{"who is not there Off, among them", shut(7), nil},
		{"who is not there Off, behind all", shut(99), nil},
		{"-1 Off", shut(-1), nil},
		{"100 Off", shut(100), nil},
		{"what is 5 in 32 bits Off", shut(1<<32 + 5), nil},
		{"Off, as great as an int goes", shut(math.MaxInt), nil},
		{"Off, as small as an int goes", shut(math.MinInt), nil},
		{"kind 0", impl.StOp{Kind: 0, Row: row(5, 1, 2)}, nil},
		{"kind 4", impl.StOp{Kind: 4, Row: row(5, 1, 2)}, nil},
		{"kind -1", impl.StOp{Kind: -1, Row: row(5, 1, 2)}, nil},
		{"kind -2", impl.StOp{Kind: -2, Row: row(5, 1, 2)}, nil},
		{"kind -3", impl.StOp{Kind: -3, Row: row(5, 1, 2)}, nil},
		{"a kind that is 1 in 32 bits", impl.StOp{Kind: 1<<32 + 1, Row: row(5, 1, 2)}, nil},
		{"a kind that is 2 in 8 bits", impl.StOp{Kind: 256 + 2, Row: row(5, 1, 2)}, nil},
		{"a kind as great as an int goes", impl.StOp{Kind: math.MaxInt, Row: row(5, 1, 2)}, nil},
		{"a kind as small as an int goes", impl.StOp{Kind: math.MinInt, Row: row(5, 1, 2)}, nil},
		{"the zero one", impl.StOp{}, nil},
	} {
		got := checkOp(t, c.what, b, c.o, c.want != nil)
		if c.want != nil && !sameBase(got, base(8, c.want...)) || c.want == nil && !sameBase(got, base(7, rows...)) {
			t.Errorf("%s: BaseDo(%v, %v) = %v", c.what, b, c.o, got)
		}
		// At the last Seq nothing is done, whatever it is.
		if got := checkOp(t, c.what+", at MaxTime", base(100000, rows...), c.o, false); !sameBase(got, base(100000, rows...)) {
			t.Errorf("%s, at MaxTime: %v", c.what, got)
		}
		if got := checkOp(t, c.what+", at MaxTime - 1", base(99999, rows...), c.o, c.want != nil); c.want != nil && got.Seq != 100000 {
			t.Errorf("%s, at MaxTime - 1: %v", c.what, got)
		}
	}
}

func TestPutsOfRowsThatAreNotRight(t *testing.T) {
	for what, x := range wrongRows() {
		for _, b := range someBases() {
			if got := checkOp(t, what, b, impl.StOp{Kind: 1, Row: x}, false); !sameBase(got, b) {
				t.Errorf("%s: %v becomes %v", what, b, got)
			}
		}
	}
}

// To drop a row, or to have it Off, looks at nothing but Who.
func TestDropsAndOffsLookAtWhoAlone(t *testing.T) {
	b := base(7, row(5, 50, 60), offRow(6, 51, 61), row(20, 52, 62))
	for _, kind := range []int{2, 3} {
		for who := 4; who <= 21; who++ {
			want, wantOk := plainBaseDo(b, impl.StOp{Kind: kind, Row: impl.Row{Who: who}})
			for what, x := range wrongRows() {
				for _, off := range []bool{false, true} {
					x.Who, x.Off = who, off
					if got := checkOp(t, what, b, impl.StOp{Kind: kind, Row: x}, wantOk); !sameBase(got, want) {
						t.Errorf("%s: kind %d of %v: %v", what, kind, x, got)
					}
				}
			}
			for _, x := range []impl.Row{row(who, 50, 60), offRow(who, 51, 61), row(who, 1000000, 100000)} {
				checkOp(t, "a right row", b, impl.StOp{Kind: kind, Row: x}, wantOk)
			}
		}
	}
}

func TestBaseDoWhereThereIsNoRoom(t *testing.T) {
	for count := 10; count <= 12; count++ {
		full := base(7, rowsOf(numbersFrom(30, count)...)...)
		for who := range 100 {
			there := who >= 30 && who < 30+count
			got := checkOp(t, "a put", full, put(who, 1, 2), there || count < 12)
			if want := count + 1; count < 12 && !there && len(got.Rows) != want {
				t.Errorf("with %d, that is put to %d rows, there are %d", who, count, len(got.Rows))
			}
			checkOp(t, "a drop", full, drop(who), there)
			checkOp(t, "off", full, shut(who), there)
		}
	}
	checkOp(t, "the 12th row", base(7, rowsOf(numbersFrom(1, 11)...)...), put(0, 1, 2), true)
	checkOp(t, "the 13th row", base(7, rowsOf(numbersFrom(1, 12)...)...), put(0, 1, 2), false)
	checkOp(t, "the 13th row, behind all", base(7, rowsOf(numbersFrom(1, 12)...)...), put(99, 1, 2), false)
	checkOp(t, "in the place of one of 12", base(7, rowsOf(numbersFrom(1, 12)...)...), put(3, 1, 2), true)
	checkOp(t, "in the place of the first of 12", base(7, rowsOf(numbersFrom(1, 12)...)...), put(1, 1, 2), true)
	checkOp(t, "in the place of the last of 12", base(7, rowsOf(numbersFrom(1, 12)...)...), put(12, 1, 2), true)
	checkOp(t, "13 rows", base(7, rowsOf(numbersFrom(1, 13)...)...), put(3, 1, 2), false)
	checkOp(t, "a drop of 13 rows", base(7, rowsOf(numbersFrom(1, 13)...)...), drop(3), false)
}

func TestBaseDoOfEachBase(t *testing.T) {
	for _, b := range someBases() {
		for who := -2; who <= 101; who++ {
			for kind := -4; kind <= 5; kind++ {
				for _, x := range []impl.Row{row(who, 777, 9), offRow(who, 777, 9), row(who, 0, 0)} {
					o := impl.StOp{Kind: kind, Row: x}
					_, ok := plainBaseDo(b, o)
					checkOp(t, "each who", b, o, ok)
				}
			}
		}
	}
}

// someOps is a log of which each operation can be done from nothing on.
func someOps() []impl.StOp {
	return []impl.StOp{
		put(5, 1, 9), put(2, 3, 9), put(5, 4, 9), shut(2), drop(5), put(5, 6, 1), shut(5), shut(5), put(2, 3, 9), put(99, 8, 8), put(0, 7, 7), drop(99), put(50, 1000000, 100000), drop(0), put(99, 1, 1),
	}
}

func manyOps(count int) []impl.StOp {
	var l []impl.StOp
	for i := range count {
		l = append(l, put(i%12, 1+i, 1+i%9))
	}
	return l
}

func TestBaseAll(t *testing.T) {
	b := base(7, row(5, 50, 60), offRow(6, 51, 61))
	twelve := base(7, rowsOf(numbersFrom(30, 12)...)...)
	for _, c := range []struct {
		what  string
		b     impl.Base
		l     []impl.StOp
		want  impl.Base
		count int
	}{
		{"no operations", b, nil, b, 0},
		{"no operations, nothing there", impl.Base{}, nil, impl.Base{}, 0},
		{"no operations, none yet", b, []impl.StOp{}, b, 0},
		{"one", b, []impl.StOp{drop(5)}, base(8, offRow(6, 51, 61)), 1},
		{"one that cannot be done", b, []impl.StOp{drop(7)}, b, 0},
		{"the first one cannot be done", b, []impl.StOp{drop(7), drop(5), shut(6)}, base(9, offRow(6, 51, 61)), 2},
		{"the last one cannot be done", b, []impl.StOp{drop(5), shut(6), {}}, base(9, offRow(6, 51, 61)), 2},
		{"one among them cannot be done", b, []impl.StOp{drop(5), drop(5), drop(6)}, base(9), 2},
		{"none can be done", b, []impl.StOp{drop(7), {}, put(7, 0, 1), shut(100)}, b, 0},
		{"the same one twice", b, []impl.StOp{put(7, 1, 2), put(7, 1, 2)}, base(9, row(5, 50, 60), offRow(6, 51, 61), row(7, 1, 2)), 2},
		{"what was put is dropped", b, []impl.StOp{put(7, 1, 2), drop(7)}, base(9, b.Rows...), 2},
		{"dropped ahead of being put", b, []impl.StOp{drop(7), put(7, 1, 2)}, base(8, row(5, 50, 60), offRow(6, 51, 61), row(7, 1, 2)), 1},
		{"Off, and put anew", b, []impl.StOp{shut(5), put(5, 1, 2)}, base(9, row(5, 1, 2), offRow(6, 51, 61)), 2},
		{"put, and Off", b, []impl.StOp{put(5, 1, 2), shut(5)}, base(9, offRow(5, 1, 2), offRow(6, 51, 61)), 2},
		{"no room at first", twelve, []impl.StOp{put(0, 1, 2), drop(41), put(0, 3, 4)}, base(9, append([]impl.Row{row(0, 3, 4)}, twelve.Rows[:11]...)...), 2},
		{"two left up to MaxTime", base(99998, b.Rows...), []impl.StOp{drop(7), drop(5), drop(6), put(1, 1, 1)}, base(100000), 2},
		{"none left up to MaxTime", base(100000, b.Rows...), []impl.StOp{drop(5), put(1, 1, 1)}, base(100000, b.Rows...), 0},
	} {
		if got, count := checkAll(t, c.what, c.b, c.l); count != c.count || !sameBase(got, c.want) {
			t.Errorf("%s: BaseAll(%v, %v) = %v, %d, not %v, %d", c.what, c.b, c.l, got, count, c.want, c.count)
		}
	}
	for _, b := range someBases() {
		checkAll(t, "some", b, someOps())
		checkAll(t, "some, twice", b, append(someOps(), someOps()...))
	}
}

// There may be more than MaxOps: the chapter has no word against it.
func TestBaseAllOfMany(t *testing.T) {
	for _, count := range []int{59, 60, 61, 62, 120, 121, 1000} {
		if b, done := checkAll(t, "many", impl.Base{}, manyOps(count)); done != count || b.Seq != count || len(b.Rows) != 12 {
			t.Errorf("of %d were done %d, to %v", count, done, b)
		}
		checkAll(t, "many, of which few can be done", fullBase(5), append(manyOps(count), drop(99), drop(99)))
		checkAll(t, "many that cannot be done", fullBase(5), slices.Repeat([]impl.StOp{drop(3)}, count))
		b := base(99990)
		if b, done := checkAll(t, "more than there is Seq for", b, manyOps(count)); done != 10 || b.Seq != 100000 {
			t.Errorf("of %d were done %d, to %v", count, done, b)
		}
	}
	if b, done := checkAll(t, "up to the last Seq", impl.Base{}, manyOps(100002)); done != 100000 || b.Seq != 100000 {
		t.Errorf("it ends at %v, behind %d", b, done)
	}
}

// BaseAll is BaseDo of one behind the other.
func TestBaseAllIsOneByOne(t *testing.T) {
	for _, b := range someBases() {
		l := append(someOps(), someOps()...)
		for count := range len(l) + 1 {
			one, done := b, 0
			for _, o := range l[:count] {
				next, ok := impl.BaseDo(one, o)
				if one = next; ok {
					done++
				}
			}
			if got, n := impl.BaseAll(b, l[:count]); n != done || !sameBase(got, one) {
				t.Errorf("of %v, BaseAll of %d is %v, %d, and one by one %v, %d", b, count, got, n, one, done)
			}
		}
	}
}

func TestFollow(t *testing.T) {
	log := someOps()
	b := base(3, row(5, 50, 60), offRow(6, 51, 61))
	for _, c := range []struct {
		what string
		b    impl.Base
		log  []impl.StOp
		want impl.Base
		ok   bool
	}{
		{"no log, nothing there", impl.Base{}, nil, impl.Base{}, true},
		{"no log, rows at Seq 0", base(0, b.Rows...), nil, base(0, b.Rows...), true},
		{"no log, Seq 1", base(1), nil, base(1), false},
		{"no log, Seq 3", b, nil, b, false},
		{"no log, the last Seq", base(100000), nil, base(100000), false},
		{"a log one shorter than Seq", b, log[:2], b, false},
		{"a log of one", b, log[:1], b, false},
		{"a log as long as Seq", b, log[:3], b, true},
		{"a log longer by one", base(3, row(2, 3, 9), row(5, 4, 9)), log[:4], base(4, offRow(2, 3, 9), row(5, 4, 9)), true},
		{"a log longer by two", base(3, row(2, 3, 9), row(5, 4, 9)), log[:5], base(5, offRow(2, 3, 9)), true},
		{"a log longer by many", base(3, row(2, 3, 9), row(5, 4, 9)), log, base(15, row(2, 3, 9), offRow(5, 6, 1), row(50, 1000000, 100000), row(99, 1, 1)), true},
		{"Seq 0", impl.Base{}, log[:2], base(2, row(2, 3, 9), row(5, 1, 9)), true},
		{"Seq 0, and rows", base(0, row(5, 50, 60), row(6, 7, 8)), log[:1], base(1, row(5, 1, 9), row(6, 7, 8)), true},
		{"one just behind Seq cannot be done", b, log[:4], b, false},
		{"the last one cannot be done", b, append(log[:3:3], shut(5), drop(6), drop(6)), b, false},
		{"the last one is none", b, append(log[:3:3], shut(5), impl.StOp{}), b, false},
		{"one among those behind Seq cannot be done", b, append(log[:3:3], shut(5), drop(7), drop(5)), b, false},
		{"one just ahead of Seq could not be done", b, append(log[:2:2], drop(77), drop(5)), base(4, offRow(6, 51, 61)), true},
		{"the first one could not be done", b, []impl.StOp{drop(77), log[1], log[2], drop(5)}, base(4, offRow(6, 51, 61)), true},
		{"none ahead of Seq could be done", b, []impl.StOp{{}, {}, {}, drop(5)}, base(4, offRow(6, 51, 61)), true},
		{"none ahead of Seq could be done, and none is behind", b, []impl.StOp{{}, {}, {}}, b, true},
		{"what was done is not done again", b, []impl.StOp{drop(5), drop(6), {}}, b, true},
		{"one alone, that cannot be done", impl.Base{}, []impl.StOp{drop(5)}, impl.Base{}, false},
		{"what is put has no room", base(1, rowsOf(numbersFrom(1, 12)...)...), []impl.StOp{{}, put(0, 1, 1)}, base(1, rowsOf(numbersFrom(1, 12)...)...), false},
	} {
		if got := checkFollow(t, c.what, c.b, c.log, c.ok); !sameBase(got, c.want) {
			t.Errorf("%s: Follow(%v, %v) = %v, not %v", c.what, c.b, c.log, got, c.want)
		}
	}
	for _, b := range someBases() {
		for count := range len(log) + 1 {
			_, ok := plainFollow(b, log[:count])
			checkFollow(t, "some", b, log[:count], ok)
		}
	}
}

func TestFollowOfWrongBases(t *testing.T) {
	for what, b := range wrongBases() {
		for _, log := range [][]impl.StOp{nil, {}, someOps(), manyOps(60), manyOps(61), {{}}} {
			if got := checkFollow(t, what, b, log, false); !sameBase(got, impl.Base{}) {
				t.Errorf("%s: Follow(%v, %v) = %v", what, b, log, got)
			}
		}
	}
	for what, x := range wrongRows() {
		for _, log := range [][]impl.StOp{nil, manyOps(60), manyOps(61)} {
			checkFollow(t, what, base(60, x), log, false)
			checkFollow(t, what, base(0, x), log, false)
		}
	}
}

func TestFollowToTheLastSeq(t *testing.T) {
	log := manyOps(100002)
	checkFollow(t, "as long as the last Seq", base(100000, rowsOf(3)...), log[:100000], true)
	checkFollow(t, "one longer", base(100000, rowsOf(3)...), log[:100001], false)
	checkFollow(t, "one shorter", base(100000, rowsOf(3)...), log[:99999], false)
	checkFollow(t, "up to it", base(99999, rowsOf(3)...), log[:100000], true)
	checkFollow(t, "past it", base(99999, rowsOf(3)...), log[:100001], false)
	checkFollow(t, "past it by more", base(99999, rowsOf(3)...), log, false)
	end := checkFollow(t, "from the beginning up to it", impl.Base{}, log[:100000], true)
	checkFollow(t, "from the beginning past it", impl.Base{}, log[:100001], false)
	half, _ := impl.BaseAll(impl.Base{}, log[:50000])
	if got := checkFollow(t, "from the half up to it", half, log[:100000], true); !sameBase(got, end) {
		t.Errorf("from the half it is %v, from the beginning %v", got, end)
	}
}

// From the beginning and from each place on the way the same log leads to the same store.
func TestFollowFromEachPlace(t *testing.T) {
	for _, log := range [][]impl.StOp{someOps(), manyOps(30), nil, {put(1, 1, 1)}} {
		places := []impl.Base{{}}
		for _, o := range log {
			next, ok := impl.BaseDo(places[len(places)-1], o)
			if !ok {
				t.Fatalf("%v cannot be done", o)
			}
			places = append(places, next)
		}
		for from, place := range places {
			for to, want := range places {
				if from > to {
					want = place
				}
				if got := checkFollow(t, "on the way", place, log[:to], from <= to); !sameBase(got, want) {
					t.Errorf("from %d, the first %d of %v lead to %v, not %v", from, to, log, got, want)
				}
			}
		}
	}
}

func TestShowBase(t *testing.T) {
	for _, c := range []struct {
		b    impl.Base
		want string
	}{
		{impl.Base{}, "\x00\x00"},
		{base(5), "\x05\x00"},
		{impl.Base{Rows: []impl.Row{}}, "\x00\x00"},
		{base(0, row(0, 1, 1)), "\x00\x01\x00\x01\x01\x00"},
		{base(5, offRow(2, 3, 9)), "\x05\x01\x02\x03\x09\x01"},
		{base(127, row(99, 127, 127)), "\x7f\x01\x63\x7f\x7f\x00"},
		{base(128, offRow(99, 128, 128)), "\x80\x01\x01\x63\x80\x01\x80\x01\x01"},
		{base(16383, row(98, 16383, 16384), offRow(99, 16384, 16383)), "\xff\x7f\x02\x62\xff\x7f\x80\x80\x01\x00\x63\x80\x80\x01\xff\x7f\x01"},
		{base(100000, row(5, 1000000, 100000)), "\xa0\x8d\x06\x01\x05\xc0\x84\x3d\xa0\x8d\x06\x00"},
		{base(100001), ""},
		{base(-1), ""},
		{base(5, row(5, 1000001, 1)), ""},
		{base(5, row(5, 1, 100001)), ""},
		{base(5, row(100, 1, 1)), ""},
		{base(5, row(5, 0, 1)), ""},
		{base(5, row(5, 1, 0)), ""},
		{base(5, row(2, 1, 1), row(1, 1, 1)), ""},
		{base(5, row(2, 1, 1), row(2, 1, 1)), ""},
		{base(3, rowsOf(numbersFrom(0, 12)...)...), "\x03\x0c\x00\x64\xf4\x03\x00\x01\x65\xf3\x03\x00\x02\x66\xf2\x03\x01\x03\x67\xf1\x03\x00\x04\x68\xf0\x03\x00\x05\x69\xef\x03\x01\x06\x6a\xee\x03\x00\x07\x6b\xed\x03\x00\x08\x6c\xec\x03\x01\x09\x6d\xeb\x03\x00\x0a\x6e\xea\x03\x00\x0b\x6f\xe9\x03\x01"},
		{base(3, rowsOf(numbersFrom(0, 13)...)...), ""},
	} {
		checkBase(t, "shown", c.b)
		if got := impl.ShowBase(c.b); got != c.want {
			t.Errorf("ShowBase(%v) = %q, not %q", c.b, got, c.want)
		}
	}
}

func TestReadBase(t *testing.T) {
	none := impl.Base{}
	twelve := base(3, rowsOf(numbersFrom(0, 12)...)...)
	shown := rawBase(twelve)
	for _, c := range []struct {
		what string
		s    string
		want impl.Base
		ok   bool
	}{
		{"the empty text", "", none, false},
		{"no rows", "\x05\x00", base(5), true},
		{"the zero one", "\x00\x00", none, true},
		{"a Seq alone", "\x05", none, false},
		{"no rows and a byte more", "\x05\x00\x00", none, false},
		{"one row that is not there", "\x05\x01", none, false},
		{"a Who alone", "\x05\x01\x02", none, false},
		{"a Who and a Key alone", "\x05\x01\x02\x03", none, false},
		{"a row without its last byte", "\x05\x01\x02\x03\x09", none, false},
		{"a row", "\x05\x01\x02\x03\x09\x00", base(5, row(2, 3, 9)), true},
		{"a row that is Off", "\x05\x01\x02\x03\x09\x01", base(5, offRow(2, 3, 9)), true},
		{"a last byte of 2", "\x05\x01\x02\x03\x09\x02", none, false},
		{"a last byte of 3", "\x05\x01\x02\x03\x09\x03", none, false},
		{"a last byte of 127", "\x05\x01\x02\x03\x09\x7f", none, false},
		{"a last byte of 128", "\x05\x01\x02\x03\x09\x80", none, false},
		{"a last byte of 129", "\x05\x01\x02\x03\x09\x81", none, false},
		{"a last byte of 255", "\x05\x01\x02\x03\x09\xff", none, false},
		{"Off as a Var of two bytes", "\x05\x01\x02\x03\x09\x81\x00", none, false},
		{"not Off as a Var of two bytes", "\x05\x01\x02\x03\x09\x80\x00", none, false},
		{"a first row's last byte of 2", "\x05\x02\x02\x03\x09\x02\x04\x03\x09\x00", none, false},
		{"a first row's last byte of 255", "\x05\x02\x02\x03\x09\xff\x04\x03\x09\x00", none, false},
		{"a row and a byte more", "\x05\x01\x02\x03\x09\x00\x00", none, false},
		{"a row more than it says", "\x05\x01\x02\x03\x09\x00\x03\x03\x09\x00", none, false},
		{"a row less than it says", "\x05\x02\x02\x03\x09\x00", none, false},
		{"none said, but one there", "\x05\x00\x02\x03\x09\x00", none, false},
		{"says 12", shown, twelve, true},
		{"says 12, has 11", "\x03\x0c" + rawBase(base(3, twelve.Rows[:11]...))[2:], none, false},
		{"says 11, has 12", "\x03\x0b" + shown[2:], none, false},
		{"says 12, has 13", "\x03\x0c" + rawBase(base(3, rowsOf(numbersFrom(0, 13)...)...))[2:], none, false},
		{"says 13", rawBase(base(3, rowsOf(numbersFrom(0, 13)...)...)), none, false},
		{"says 13, has 12", "\x03\x0d" + shown[2:], none, false},
		{"says 100", rawBase(base(3, rowsOf(numbersFrom(0, 100)...)...)), none, false},
		{"says 1 in 32 bits", "\x05" + impl.Var(1<<32+1) + "\x02\x03\x09\x00", none, false},
		{"says MaxVar", "\x05" + impl.Var(impl.MaxVar) + shown[2:], none, false},
		{"says MaxVar, and no more", "\x05" + impl.Var(impl.MaxVar), none, false},
		{"says MaxVar, and has many", "\x05" + impl.Var(impl.MaxVar) + strings.Repeat("\x02\x03\x09\x00", 1<<16), none, false},
		{"says more than a Var can", "\x05" + strings.Repeat("\xff", 7) + "\x01\x02\x03\x09\x00", none, false},
		{"Seq 0", "\x00\x01\x02\x03\x09\x00", base(0, row(2, 3, 9)), true},
		{"Seq 99999", impl.Var(99999) + "\x00", base(99999), true},
		{"Seq 100000", impl.Var(100000) + "\x00", base(100000), true},
		{"Seq 100001", impl.Var(100001) + "\x00", none, false},
		{"a Seq of MaxVar", impl.Var(impl.MaxVar) + "\x00", none, false},
		{"a Seq that is 5 in 32 bits", impl.Var(1<<32+5) + "\x00", none, false},
		{"Who 0", "\x05\x01\x00\x03\x09\x00", base(5, row(0, 3, 9)), true},
		{"Who 99", "\x05\x01\x63\x03\x09\x00", base(5, row(99, 3, 9)), true},
		{"Who 100", "\x05\x01\x64\x03\x09\x00", none, false},
		{"a Who of MaxVar", "\x05\x01" + impl.Var(impl.MaxVar) + "\x03\x09\x00", none, false},
		{"Key 0", "\x05\x01\x02\x00\x09\x00", none, false},
		{"Key 1", "\x05\x01\x02\x01\x09\x00", base(5, row(2, 1, 9)), true},
		{"MaxKey", "\x05\x01\x02" + impl.Var(1000000) + "\x09\x00", base(5, row(2, 1000000, 9)), true},
		{"MaxKey + 1", "\x05\x01\x02" + impl.Var(1000001) + "\x09\x00", none, false},
		{"a Key of MaxVar", "\x05\x01\x02" + impl.Var(impl.MaxVar) + "\x09\x00", none, false},
		{"Life 0", "\x05\x01\x02\x03\x00\x00", none, false},
		{"Life 1", "\x05\x01\x02\x03\x01\x00", base(5, row(2, 3, 1)), true},
		{"Life MaxTime", "\x05\x01\x02\x03" + impl.Var(100000) + "\x00", base(5, row(2, 3, 100000)), true},
		{"Life MaxTime + 1", "\x05\x01\x02\x03" + impl.Var(100001) + "\x00", none, false},
		{"a Life of MaxVar", "\x05\x01\x02\x03" + impl.Var(impl.MaxVar) + "\x00", none, false},
		{"Seq with a byte too many", "\x85\x00\x01\x02\x03\x09\x00", none, false},
		{"the count with a byte too many", "\x05\x81\x00\x02\x03\x09\x00", none, false},
		{"none, with a byte too many", "\x05\x80\x00", none, false},
		{"12 with a byte too many", "\x03\x8c\x00" + shown[2:], none, false},
		{"Who with a byte too many", "\x05\x01\x82\x00\x03\x09\x00", none, false},
		{"Key with a byte too many", "\x05\x01\x02\x83\x00\x09\x00", none, false},
		{"Life with a byte too many", "\x05\x01\x02\x03\x89\x00\x00", none, false},
		{"a Life that comes to no end", "\x05\x01\x02\x03\x89", none, false},
		{"a Seq that comes to no end", "\x85", none, false},
		{"Whos that fall", "\x05\x02\x03\x03\x09\x00\x02\x03\x09\x00", none, false},
		{"the same Who twice", "\x05\x02\x03\x03\x09\x00\x03\x03\x09\x00", none, false},
		{"Whos that rise", "\x05\x02\x03\x03\x09\x01\x04\x03\x09\x00", base(5, offRow(3, 3, 9), row(4, 3, 9)), true},
		{"bytes that are no number", strings.Repeat("\xff", 8), none, false},
		{"many bytes", "\x05\x01\x02\x03\x09\x00" + strings.Repeat("\x00", 1<<20), none, false},
	} {
		checkReadBase(t, c.what, c.s, c.want, c.ok)
		if checkAnyBaseText(t, c.what, c.s) != c.ok {
			t.Errorf("%s: the chapter says of %q: %v", c.what, c.s, !c.ok)
		}
	}
}

func TestReadBaseOfWhatIsNotRight(t *testing.T) {
	hasText := func(b impl.Base) bool {
		all := []int{b.Seq}
		for _, x := range b.Rows {
			all = append(all, x.Who, x.Key, x.Life)
		}
		// Others have no text that plain words tell.
		return slices.Min(all) >= 0 && slices.Max(all) < 1<<21
	}
	asked := 0
	ask := func(what string, b impl.Base) {
		t.Helper()
		if hasText(b) {
			checkReadBase(t, what, rawBase(b), impl.Base{}, false)
			asked++
		}
	}
	for what, b := range wrongBases() {
		ask(what, b)
	}
	for what, x := range wrongRows() {
		ask(what, base(60, x))
		ask(what, base(60, row(1, 5, 5), x))
		ask(what, base(60, x, row(99, 5, 5)))
	}
	if asked < 40 {
		t.Errorf("only %d were asked", asked)
	}
}

func TestReadBaseCutShortOrWithMore(t *testing.T) {
	for _, b := range someBases() {
		s := impl.ShowBase(b)
		checkReadBase(t, "as it was", s, b, true)
		for cut := range len(s) {
			checkReadBase(t, "cut short", s[:cut], impl.Base{}, false)
		}
		for more := range 256 {
			checkReadBase(t, "with a byte more", s+string([]byte{byte(more)}), impl.Base{}, false)
		}
		checkReadBase(t, "twice", s+s, impl.Base{}, false)
	}
}

// All short texts, and shown ones changed by a byte.
func TestReadBaseTakesNothingElse(t *testing.T) {
	taken := 0
	check := func(s string) {
		t.Helper()
		if checkAnyBaseText(t, "a text", s) {
			taken++
		}
	}
	everyText("\x00\x01\x02\x63\x64\x80", 6, check)
	// One row, or two, of any few numbers.
	everyText("\x00\x01\x02\x80", 6, func(s string) { check("\x05\x01" + s) })
	everyText("\x00\x01\x02", 8, func(s string) { check("\x05\x02" + s) })
	for _, b := range someBases() {
		s := impl.ShowBase(b)
		for i := range len(s) {
			check(s[:i] + s[i+1:])
			for other := range 256 {
				check(s[:i] + string([]byte{byte(other)}) + s[i+1:])
				check(s[:i] + string([]byte{byte(other)}) + s[i:])
			}
		}
	}
	if taken < 20000 {
		t.Errorf("only %d texts were taken", taken)
	}
}

// everySmallBase calls say with all rows of these small numbers, up to so many of them, right or not.
func everySmallBase(longest int, say func(impl.Base)) {
	var grow func(rows []impl.Row)
	grow = func(rows []impl.Row) {
		say(base(5, slices.Clone(rows)...))
		if len(rows) == longest {
			return
		}
		for _, x := range smallRows() {
			grow(append(rows, x))
		}
	}
	grow(nil)
}

func smallRows() []impl.Row {
	var l []impl.Row
	for who := range 3 {
		for key := range 2 {
			for life := range 2 {
				l = append(l, row(who, key, life), offRow(who, key, life))
			}
		}
	}
	return l
}

func smallOps() []impl.StOp {
	var l []impl.StOp
	for kind := -1; kind <= 4; kind++ {
		for _, x := range append(smallRows(), row(-1, 1, 1), row(3, 1, 1), row(1, 2, 1), row(1, 1, 2), row(2, 2, 2)) {
			l = append(l, impl.StOp{Kind: kind, Row: x})
		}
	}
	return l
}

func TestAllSmallBases(t *testing.T) {
	right, ops := 0, smallOps()
	everySmallBase(3, func(b impl.Base) {
		if !checkBase(t, "small", b) {
			return
		}
		right++
		for _, seq := range []int{0, 5, 99999, 100000} {
			b.Seq = seq
			for _, o := range ops {
				_, ok := plainBaseDo(b, o)
				checkOp(t, "small", b, o, ok)
			}
		}
	})
	// Each of 3 is there, there and Off, or not there.
	if right != 27 {
		t.Errorf("%d are right", right)
	}
}

// All two operations, one behind the other, of those that are told apart.
func TestAllTwoSmallOps(t *testing.T) {
	var ops []impl.StOp
	for _, who := range []int{-1, 0, 1, 2} {
		ops = append(ops, put(who, 1, 1), put(who, 2, 1), put(who, 0, 1), impl.StOp{Kind: 1, Row: offRow(who, 1, 1)}, drop(who), shut(who), impl.StOp{Kind: 4, Row: row(who, 1, 1)})
	}
	for _, b := range []impl.Base{{}, base(1, row(1, 1, 1)), base(1, offRow(0, 1, 1), row(2, 1, 1)), base(2, rowsOf(0, 1, 2)...)} {
		for _, one := range ops {
			for _, two := range ops {
				l := []impl.StOp{one, two}
				checkAll(t, "two", b, l)
				_, ok := plainFollow(b, l)
				checkFollow(t, "two", b, l, ok)
			}
		}
	}
}

// anyBase is right, but here and there where wrong is above 0.
func anyBase(r *rand.Rand, wrong int) impl.Base {
	whos := anyOf(r, []int{3, 13, 100})
	in := r.Perm(whos)[:min(whos, r.Intn(13))]
	slices.Sort(in)
	b := base(anyOf(r, []int{0, r.Intn(20), r.Intn(100001), 100000 - r.Intn(4)}))
	for _, who := range in {
		x := row(who, numberNear(r, 1, 1000000, 0), numberNear(r, 1, 100000, 0))
		x.Off = r.Intn(2) == 0
		b.Rows = append(b.Rows, x)
	}
	if wrong > 0 && r.Intn(wrong) == 0 {
		turnABase(r, &b)
	}
	return b
}

// turnABase changes a number, which may leave the base right.
func turnABase(r *rand.Rand, b *impl.Base) {
	if len(b.Rows) == 0 || r.Intn(6) == 0 {
		b.Seq = anyOf(r, []int{-1, 0, 100000, 100001})
		return
	}
	i, j := r.Intn(len(b.Rows)), r.Intn(len(b.Rows))
	switch r.Intn(5) {
	case 0:
		b.Rows[i].Who = anyOf(r, []int{-1, 0, 99, 100, b.Rows[j].Who})
	case 1:
		b.Rows[i].Key = anyOf(r, []int{-1, 0, 1, 1000000, 1000001})
	case 2:
		b.Rows[i].Life = anyOf(r, []int{-1, 0, 1, 100000, 100001})
	case 3:
		b.Rows[i], b.Rows[j] = b.Rows[j], b.Rows[i]
	case 4:
		b.Rows = slices.Insert(b.Rows, i, b.Rows[j])
	}
}

func anyOp(r *rand.Rand, b impl.Base, wrong int) impl.StOp {
	o := impl.StOp{Kind: 1 + r.Intn(3), Row: row(r.Intn(15), numberNear(r, 1, 1000000, wrong), numberNear(r, 1, 100000, wrong))}
	if len(b.Rows) > 0 && r.Intn(2) == 0 {
		o.Row.Who = anyOf(r, b.Rows).Who
	}
	if wrong > 0 && r.Intn(wrong) == 0 {
		switch r.Intn(3) {
		case 0:
			o.Kind = anyOf(r, []int{-1, 0, 4})
		case 1:
			o.Row.Who = anyOf(r, []int{-1, 0, 99, 100})
		case 2:
			o.Row.Off = true
		}
	}
	return o
}

func anyOps(r *rand.Rand, b impl.Base, count, wrong int) []impl.StOp {
	l := make([]impl.StOp, 0, count)
	for range count {
		l = append(l, anyOp(r, b, wrong))
	}
	return l
}

func TestBasesAtRandom(t *testing.T) {
	r := rand.New(rand.NewSource(20))
	right, wrong, done, refused := 0, 0, 0, 0
	for range 4000 {
		b := anyBase(r, anyOf(r, []int{0, 1}))
		if checkBase(t, "any", b) {
			right++
		} else {
			wrong++
		}
		for range 6 {
			o := anyOp(r, b, 6)
			_, ok := plainBaseDo(b, o)
			checkOp(t, "any", b, o, ok)
			if ok {
				done++
			} else {
				refused++
			}
		}
		checkAll(t, "any", b, anyOps(r, b, r.Intn(70), 6))
	}
	if right < 2000 || wrong < 500 || done < 6000 || refused < 6000 {
		t.Errorf("%d right, %d wrong, %d done, %d refused", right, wrong, done, refused)
	}
}

// A log whose first ones are any, and then ones that can be done, but for the last one here and there.
func TestFollowAtRandom(t *testing.T) {
	r := rand.New(rand.NewSource(1020))
	followed, refused := 0, 0
	for range 3000 {
		b := anyBase(r, anyOf(r, []int{0, 0, 0, 1}))
		b.Seq = b.Seq % 30
		log := anyOps(r, b, max(0, b.Seq-r.Intn(2)*r.Intn(3)), 2)
		last := b
		for range r.Intn(20) {
			o := anyOp(r, last, 0)
			if next, ok := plainBaseDo(last, o); ok || r.Intn(20) == 0 {
				log, last = append(log, o), next
			}
		}
		_, ok := plainFollow(b, log)
		checkFollow(t, "any", b, log, ok)
		if ok {
			followed++
		} else {
			refused++
		}
	}
	if followed < 1000 || refused < 500 {
		t.Errorf("%d followed, %d refused", followed, refused)
	}
}

// From each place, to each place, at once or by way of each one between, a log leads to the same store.
func TestPromise20(t *testing.T) {
	r := rand.New(rand.NewSource(2020))
	for range 12 {
		var log []impl.StOp
		places := []impl.Base{{}}
		for len(log) < 60 {
			last := places[len(log)]
			o := anyOp(r, last, 9)
			if next, ok := impl.BaseDo(last, o); ok {
				log, places = append(log, o), append(places, next)
			} else if !sameBase(next, last) {
				t.Fatalf("%v, that is refused, leads from %v to %v", o, last, next)
			}
		}
		end := places[len(log)]
		for from, place := range places {
			if got, ok := impl.Follow(place, log); !ok || !sameBase(got, end) || impl.ShowBase(got) != impl.ShowBase(end) {
				t.Fatalf("from %d %v leads to %v, %v, not %v", from, log, got, ok, end)
			}
			for way := range log {
				half, ok := impl.Follow(place, log[:way])
				if ok != (from <= way) || !sameBase(half, places[max(from, way)]) {
					t.Fatalf("from %d the first %d of %v lead to %v, %v", from, way, log, half, ok)
				}
				if got, ok := impl.Follow(half, log); !ok || !sameBase(got, end) {
					t.Fatalf("from %d by way of %d %v leads to %v, %v, not %v", from, way, log, got, ok, end)
				}
			}
		}
		// Shown, and read back on the other side, it goes on as well.
		for from, place := range places {
			back, ok := impl.ReadBase(impl.ShowBase(place))
			if got, follows := impl.Follow(back, log); !ok || !follows || !sameBase(got, end) {
				t.Fatalf("from %d, read back, %v leads to %v, not %v", from, log, got, end)
			}
		}
	}
}

func TestAnyTextOfABase(t *testing.T) {
	r := rand.New(rand.NewSource(3020))
	taken, refused := 0, 0
	for range 4000 {
		b := anyBase(r, 0)
		s := impl.ShowBase(b)
		checkReadBase(t, "as it was", s, b, true)
		for range 8 {
			if checkAnyBaseText(t, "turned", turnedText(r, s)) {
				taken++
			} else {
				refused++
			}
		}
	}
	if taken < 1000 || refused < 5000 {
		t.Errorf("%d texts were taken, %d refused", taken, refused)
	}
}

// No two right ones have one text.
func TestBasesShownAreUnlike(t *testing.T) {
	texts := map[string]impl.Base{}
	say := func(b impl.Base) {
		if !impl.BaseOk(b) {
			return
		}
		s := impl.ShowBase(b)
		if other, ok := texts[s]; ok && !sameBase(other, b) {
			t.Errorf("%v and %v are both shown as %q", other, b, s)
		}
		texts[s] = b
	}
	everySmallBase(2, say)
	for _, b := range someBases() {
		say(b)
	}
}

func TestBasesInOtherOrders(t *testing.T) {
	// What is told does not hang on what was told ahead of it, nor on what was written into that.
	log := someOps()
	for range 3 {
		for _, b := range someBases() {
			before := slices.Clone(b.Rows)
			done, _ := impl.BaseDo(b, put(40, 777, 9))
			refused, _ := impl.BaseDo(b, put(40, 0, 9))
			all, _ := impl.BaseAll(b, log)
			none, _ := impl.BaseAll(b, nil)
			followed, _ := impl.Follow(b, log)
			same, _ := impl.Follow(base(0, b.Rows...), nil)
			back, _ := impl.ReadBase(impl.ShowBase(b))
			for _, answer := range []impl.Base{done, refused, all, none, followed, same, back} {
				overwritten(answer.Rows, row(-7, -8, -9))
			}
			if !slices.Equal(b.Rows, before) || !slices.Equal(log, someOps()) {
				t.Fatalf("%v is %v behind that, or the log %v", before, b, log)
			}
			_, ok := plainBaseDo(b, put(40, 777, 9))
			checkOp(t, "once more", b, put(40, 777, 9), ok)
			checkOp(t, "once more", b, put(40, 0, 9), false)
			checkAll(t, "once more", b, log)
			_, ok = plainFollow(b, log)
			checkFollow(t, "once more", b, log, ok)
			checkReadBase(t, "once more", impl.ShowBase(b), b, true)
		}
	}
}
