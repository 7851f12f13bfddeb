package tests

import (
	"math"
	"testing"

	"loop.example/g00769/impl"
)

func rest(servers, ops, end int) impl.Rest {
	return impl.Rest{Servers: servers, Ops: ops, End: end}
}

// plainRest is a Rest by plain words, each server and each op by itself: what the tests hold the program's answers against.
type plainRest struct {
	servers map[int]bool
	ops     map[int]bool
	end     int
}

func plainRestOf(r impl.Rest) (plainRest, bool) {
	servers, ok1 := plainSet(r.Servers, 3)
	ops, ok2 := plainSet(r.Ops, 8)
	if !ok1 || !ok2 || r.End < 0 || r.End > 100000 {
		return plainRest{}, false
	}
	return plainRest{servers, ops, r.End}, true
}

// plainSet takes powers of 2 away, the greatest first, so that it shares no way with the program's shifts.
func plainSet(n int, bits int) (map[int]bool, bool) {
	set := map[int]bool{}
	power := 1
	for range bits {
		power *= 2
	}
	if n < 0 || n >= power {
		return nil, false
	}
	for bit := bits - 1; bit >= 0; bit-- {
		power /= 2
		if n >= power {
			set[bit] = true
			n -= power
		}
	}
	return set, true
}

func holdsSet(all, some map[int]bool) bool {
	for n := range some {
		if !all[n] {
			return false
		}
	}
	return true
}

func plainEntails(a, b impl.Rest) bool {
	x, ok1 := plainRestOf(a)
	y, ok2 := plainRestOf(b)
	return ok1 && ok2 && holdsSet(y.servers, x.servers) && holdsSet(y.ops, x.ops) && x.end <= y.end
}

func plainPermits(r impl.Rest, server, op, now int) bool {
	x, ok := plainRestOf(r)
	return ok && x.servers[server] && x.ops[op] && 0 <= now && now <= x.end
}

// Rests that are not right, for one reason each; but for it they would be good for much.
func wrongRests() []impl.Rest {
	return []impl.Rest{
		rest(-1, 255, 100000), rest(8, 255, 100000), rest(15, 255, 100000), rest(math.MaxInt, 255, 100000), rest(math.MinInt, 255, 100000), rest(math.MinInt+7, 255, 100000),
		rest(7, -1, 100000), rest(7, 256, 100000), rest(7, 511, 100000), rest(7, math.MaxInt, 100000), rest(7, math.MinInt, 100000), rest(7, math.MinInt+255, 100000),
		rest(7, 255, -1), rest(7, 255, 100001), rest(7, 255, math.MaxInt), rest(7, 255, math.MinInt),
		rest(8, 0, 0), rest(0, 256, 0), rest(0, 0, 100001), rest(-1, 0, 0), rest(0, -1, 0), rest(0, 0, -1),
		rest(-1, -1, -1), rest(8, 256, 100001),
	}
}

// Right ones: every set of servers, ops by one bit, by a few and all, and times at both ends.
func someRests() []impl.Rest {
	l := []impl.Rest{}
	for servers := range 8 {
		for _, ops := range []int{0, 1, 2, 64, 128, 129, 85, 170, 127, 254, 255} {
			for _, end := range []int{0, 1, 49, 50, 99999, 100000} {
				l = append(l, rest(servers, ops, end))
			}
		}
	}
	return l
}

func TestRestLimitsAndOk(t *testing.T) {
	if impl.MaxTime != 100000 || impl.AllServers != 7 || impl.AllOps != 255 {
		t.Error("limits", impl.MaxTime, impl.AllServers, impl.AllOps)
	}
	for _, r := range append(someRests(), impl.Rest{}, rest(7, 0, 0), rest(0, 255, 0), rest(0, 0, 100000), rest(7, 255, 100000)) {
		if !impl.RestOk(r) {
			t.Errorf("RestOk(%+v) = false", r)
		}
	}
	for _, r := range wrongRests() {
		if impl.RestOk(r) {
			t.Errorf("RestOk(%+v) = true", r)
		}
	}
	for n := -300; n <= 600; n++ {
		if impl.RestOk(rest(n, 0, 0)) != (0 <= n && n <= 7) || impl.RestOk(rest(0, n, 0)) != (0 <= n && n <= 255) || impl.RestOk(rest(0, 0, n)) != (0 <= n) {
			t.Errorf("RestOk of %d", n)
		}
	}
}

func TestMeet(t *testing.T) {
	for _, c := range []struct {
		what       string
		a, b, want impl.Rest
	}{
		{"some of each", rest(3, 12, 50), rest(6, 5, 40), rest(2, 4, 40)},
		{"nothing in both", rest(5, 15, 30), rest(2, 240, 20), rest(0, 0, 20)},
		{"no server in both", rest(1, 15, 30), rest(6, 255, 20), rest(0, 15, 20)},
		{"no op in both", rest(7, 170, 30), rest(3, 85, 31), rest(3, 0, 30)},
		{"one and itself", rest(5, 77, 1234), rest(5, 77, 1234), rest(5, 77, 1234)},
		{"one within the other", rest(1, 8, 10), rest(5, 9, 11), rest(1, 8, 10)},
		{"the same End", rest(3, 3, 60), rest(6, 6, 60), rest(2, 2, 60)},
		{"only the End is later", rest(3, 3, 61), rest(3, 3, 60), rest(3, 3, 60)},
		{"an End of 0", rest(7, 255, 0), rest(7, 255, 100000), rest(7, 255, 0)},
		{"the greatest and the least", rest(7, 255, 100000), rest(0, 0, 0), rest(0, 0, 0)},
		{"the greatest and itself", rest(7, 255, 100000), rest(7, 255, 100000), rest(7, 255, 100000)},
		{"the zero one and itself", impl.Rest{}, impl.Rest{}, impl.Rest{}},
	} {
		if got := impl.Meet(c.a, c.b); got != c.want {
			t.Errorf("%s: Meet(%+v, %+v) = %+v, want %+v", c.what, c.a, c.b, got, c.want)
		}
		if got := impl.Meet(c.b, c.a); got != c.want {
			t.Errorf("%s: Meet(%+v, %+v) = %+v, want %+v", c.what, c.b, c.a, got, c.want)
		}
	}
}

func TestNothingOfRestsThatAreNotRight(t *testing.T) {
	all := rest(7, 255, 100000)
	for _, wrong := range wrongRests() {
		for _, other := range []impl.Rest{all, {}, rest(3, 12, 50), wrong} {
			if got := impl.Meet(wrong, other); got != (impl.Rest{}) {
				t.Errorf("Meet(%+v, %+v) = %+v", wrong, other, got)
			}
			if got := impl.Meet(other, wrong); got != (impl.Rest{}) {
				t.Errorf("Meet(%+v, %+v) = %+v", other, wrong, got)
			}
			if impl.Entails(wrong, other) || impl.Entails(other, wrong) {
				t.Errorf("Entails of %+v and %+v", wrong, other)
			}
		}
		for server := range 3 {
			for op := range 8 {
				if impl.Permits(wrong, server, op, 0) || impl.Permits(wrong, server, op, 1) {
					t.Errorf("Permits(%+v, %d, %d)", wrong, server, op)
				}
			}
		}
		if got := impl.ShowRest(wrong); got != "" {
			t.Errorf("ShowRest(%+v) = %q", wrong, got)
		}
	}
}

func TestEntails(t *testing.T) {
	for _, c := range []struct {
		what string
		a, b impl.Rest
		want bool
	}{
		{"the same ones", rest(5, 77, 50), rest(5, 77, 50), true},
		{"the zero one and itself", impl.Rest{}, impl.Rest{}, true},
		{"the zero one and all", impl.Rest{}, rest(7, 255, 100000), true},
		{"all and the zero one", rest(7, 255, 100000), impl.Rest{}, false},
		{"all and itself", rest(7, 255, 100000), rest(7, 255, 100000), true},
		{"only the End is later", rest(5, 77, 51), rest(5, 77, 50), false},
		{"only the End is earlier", rest(5, 77, 49), rest(5, 77, 50), true},
		{"one server more", rest(7, 77, 50), rest(5, 77, 50), false},
		{"one server less", rest(4, 77, 50), rest(5, 77, 50), true},
		{"one op more", rest(5, 79, 50), rest(5, 77, 50), false},
		{"one op less", rest(5, 76, 50), rest(5, 77, 50), true},
		{"another server, of a lesser number", rest(2, 77, 50), rest(5, 77, 50), false},
		{"another op, of a lesser number", rest(5, 2, 50), rest(5, 77, 50), false},
		{"nothing but a later End", rest(0, 0, 51), rest(7, 255, 50), false},
		{"no server, one op more", rest(0, 1, 0), rest(7, 254, 50), false},
		{"no op, one server more", rest(1, 0, 0), rest(6, 255, 50), false},
	} {
		if got := impl.Entails(c.a, c.b); got != c.want {
			t.Errorf("%s: Entails(%+v, %+v) = %v", c.what, c.a, c.b, got)
		}
	}
}

func TestEntailsByEachBit(t *testing.T) {
	for servers := range 8 {
		for bit := range 3 {
			a, b := rest(servers|1<<bit, 255, 50), rest(servers&^(1<<bit), 255, 50)
			if impl.Entails(a, b) || !impl.Entails(b, a) {
				t.Errorf("server %d: %+v, %+v", bit, a, b)
			}
		}
	}
	for ops := range 256 {
		for bit := range 8 {
			a, b := rest(7, ops|1<<bit, 50), rest(7, ops&^(1<<bit), 50)
			if impl.Entails(a, b) || !impl.Entails(b, a) {
				t.Errorf("op %d: %+v, %+v", bit, a, b)
			}
		}
	}
}

func TestPermits(t *testing.T) {
	r := rest(5, 129, 50)
	for _, c := range []struct {
		what            string
		server, op, now int
		want            bool
	}{
		{"in it", 0, 0, 25, true},
		{"its last server and op", 2, 7, 25, true},
		{"at time 0", 0, 7, 0, true},
		{"at End", 2, 0, 50, true},
		{"one later than End", 2, 0, 51, false},
		{"one before time 0", 0, 0, -1, false},
		{"the last time", 0, 0, 100000, false},
		{"a server that is not in it", 1, 0, 25, false},
		{"an op that is not in it", 0, 6, 25, false},
		{"neither is in it", 1, 1, 25, false},
		{"a server below 0", -1, 0, 25, false},
		{"one more than the last server", 3, 0, 25, false},
		{"an op below 0", 0, -1, 25, false},
		{"one more than the last op", 0, 8, 25, false},
		{"a server by its bit", 4, 0, 25, false},
		{"a server that comes round", 64, 0, 25, false},
		{"an op that comes round", 0, 64, 25, false},
		{"the greatest server", math.MaxInt, 0, 25, false},
		{"the greatest op", 0, math.MaxInt, 25, false},
		{"the greatest time", 0, 0, math.MaxInt, false},
		{"the least server", math.MinInt, 0, 25, false},
		{"the least op", 0, math.MinInt, 25, false},
		{"the least time", 0, 0, math.MinInt, false},
	} {
		if got := impl.Permits(r, c.server, c.op, c.now); got != c.want {
			t.Errorf("%s: Permits(%+v, %d, %d, %d) = %v", c.what, r, c.server, c.op, c.now, got)
		}
	}
}

func TestPermitsAtTheLastTime(t *testing.T) {
	for _, end := range []int{0, 1, 50, 99999, 100000} {
		all := rest(7, 255, end)
		if !impl.Permits(all, 0, 0, 0) || !impl.Permits(all, 0, 0, end) || impl.Permits(all, 0, 0, end+1) || impl.Permits(all, 0, 0, -1) {
			t.Errorf("Permits(%+v) at its ends", all)
		}
	}
	if impl.Permits(impl.Rest{}, 0, 0, 0) {
		t.Error("the zero Rest permits something")
	}
}

func TestPermitsEachServerAndEachOp(t *testing.T) {
	for servers := range 8 {
		for ops := range 256 {
			r := rest(servers, ops, 9)
			for server := -2; server <= 9; server++ {
				for op := -2; op <= 10; op++ {
					if got := impl.Permits(r, server, op, 9); got != plainPermits(r, server, op, 9) {
						t.Fatalf("Permits(%+v, %d, %d, 9) = %v", r, server, op, got)
					}
				}
			}
		}
	}
}

// Promise 4, but for what is permitted.
func TestMeetIsWithinBothAndEntailsThem(t *testing.T) {
	l := append(someRests(), wrongRests()...)
	for _, a := range l {
		for _, b := range l {
			m, got := impl.Meet(a, b), impl.Entails(a, b)
			if got != plainEntails(a, b) {
				t.Fatalf("Entails(%+v, %+v) = %v", a, b, got)
			}
			if !impl.RestOk(m) {
				t.Fatalf("Meet(%+v, %+v) = %+v", a, b, m)
			}
			if !impl.RestOk(a) || !impl.RestOk(b) {
				continue
			}
			if !impl.Entails(m, a) || !impl.Entails(m, b) || !plainEntails(m, a) || !plainEntails(m, b) {
				t.Fatalf("Meet(%+v, %+v) = %+v is not within both", a, b, m)
			}
			if got != (m == a) || m != impl.Meet(b, a) {
				t.Fatalf("Meet(%+v, %+v) = %+v, Entails %v", a, b, m, got)
			}
		}
	}
}

// Promise 4: just what both permit, so nothing of what both are good for is lost either.
func TestMeetPermitsWhatBothPermit(t *testing.T) {
	l := append(someRests(), rest(8, 255, 50), rest(7, 256, 50), rest(7, 255, 100001), rest(-1, -1, -1))
	for i, a := range l {
		for j := i % 31; j < len(l); j += 31 {
			b := l[j]
			m := impl.Meet(a, b)
			for server := range 3 {
				for op := range 8 {
					for _, now := range []int{0, min(a.End, b.End), min(a.End, b.End) + 1} {
						want := plainPermits(a, server, op, now) && plainPermits(b, server, op, now)
						if got := impl.Permits(m, server, op, now); got != want || want && !(impl.Permits(a, server, op, now) && impl.Permits(b, server, op, now)) {
							t.Fatalf("Permits(Meet(%+v, %+v), %d, %d, %d) = %v", a, b, server, op, now, got)
						}
					}
				}
			}
		}
	}
}

func TestShowRest(t *testing.T) {
	for _, c := range []struct {
		r    impl.Rest
		want string
	}{
		{impl.Rest{}, "l\x03a\x01\x00a\x01\x00a\x01\x00"},
		{rest(2, 4, 40), "l\x03a\x01\x02a\x01\x04a\x01\x28"},
		{rest(1, 127, 128), "l\x03a\x01\x01a\x01\x7fa\x02\x80\x01"},
		{rest(7, 255, 100000), "l\x03a\x01\x07a\x02\xff\x01a\x03\xa0\x8d\x06"},
	} {
		if got := impl.ShowRest(c.r); got != c.want || got != impl.Nums([]int{c.r.Servers, c.r.Ops, c.r.End}) {
			t.Errorf("ShowRest(%+v) = %q, want %q", c.r, got, c.want)
		}
	}
}

func TestReadRestTakesWhatShowRestMakes(t *testing.T) {
	check := func(r impl.Rest) {
		if got, ok := impl.ReadRest(impl.ShowRest(r)); got != r || !ok {
			t.Fatalf("ReadRest(%q) = %+v, %v, want %+v", impl.ShowRest(r), got, ok, r)
		}
	}
	for _, r := range someRests() {
		check(r)
	}
	for ops := range 256 {
		check(rest(ops%8, ops, ops*392))
	}
}

func TestReadRestRefuses(t *testing.T) {
	shown := impl.ShowRest(rest(3, 12, 50))
	texts := []string{
		"", "x", "l", shown[:len(shown)-1], shown + "a", shown + "\x00", shown + shown, " " + shown, "3 12 50",
		impl.Nums(nil), impl.Nums([]int{3}), impl.Nums([]int{3, 12}), impl.Nums([]int{3, 12, 50, 0}), impl.Nums([]int{0, 3, 12, 50}), impl.Nums(make([]int, 12)),
		impl.Nums([]int{8, 12, 50}), impl.Nums([]int{3, 256, 50}), impl.Nums([]int{3, 12, 100001}), impl.Nums([]int{12, 3, 50}), impl.Nums([]int{3, 12, impl.MaxVar}), impl.Nums([]int{impl.MaxVar, 12, 50}), impl.Nums([]int{3, impl.MaxVar, 50}),
		impl.Num(3), impl.Atom(shown), key(3), impl.Seal(3, shown), list(shown), list(shown, shown, shown), list(),
		list(impl.Num(3), impl.Num(12), key(50)), list(impl.Num(3), impl.Num(12), impl.Atom("")), list(key(3), impl.Num(12), impl.Num(50)), list(impl.Num(3), impl.Seal(3, impl.Num(12)), impl.Num(50)),
		"l\x03a\x01\x03a\x01\x0ca\x02\xb2\x00", "l\x03a\x02\x83\x00a\x01\x0ca\x01\x32", "l\x83\x00a\x01\x03a\x01\x0ca\x01\x32",
	}
	for _, s := range texts {
		if got, ok := impl.ReadRest(s); got != (impl.Rest{}) || ok {
			t.Errorf("ReadRest(%q) = %+v, %v", s, got, ok)
		}
	}
}

func TestReadRestTakesNothingElse(t *testing.T) {
	check := func(s string) {
		r, ok := impl.ReadRest(s)
		if ok && (impl.ShowRest(r) != s || s == "") || !ok && r != (impl.Rest{}) {
			t.Fatalf("ReadRest(%q) = %+v, %v", s, r, ok)
		}
	}
	for _, r := range []impl.Rest{{}, rest(3, 12, 50), rest(7, 255, 100000)} {
		shown := impl.ShowRest(r)
		check(shown)
		for i := range len(shown) {
			check(shown[:i])
			check(shown[i:])
			for b := range 256 {
				check(shown[:i] + string([]byte{byte(b)}) + shown[i+1:])
				check(shown[:i] + string([]byte{byte(b)}) + shown[i:])
			}
		}
	}
	everyText("la\x00\x01\x03", 7, check)
}
