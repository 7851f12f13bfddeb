package tests

import (
	"math"
	"math/rand"
	"slices"
	"strings"
	"testing"

	"loop.example/g00769/impl"
)

// Messages by plain words: what the tests hold the program's answers against.

// plainLength is how many bytes a number of bytes takes, where it is below 2 to the 21.
func plainLength(n int) string {
	switch {
	case n < 128:
		return string([]byte{byte(n)})
	case n < 128*128:
		return string([]byte{byte(128 + n%128), byte(n / 128)})
	}
	return string([]byte{byte(128 + n%128), byte(128 + n/128%128), byte(n / 128 / 128)})
}

// plainReadLength is the number with which s begins, and how many bytes it has; 0 bytes where it is none.
func plainReadLength(s string) (int, int) {
	used := 1
	for used <= len(s) && s[used-1] >= 128 {
		used++
	}
	if used > len(s) || used > 7 || used > 1 && s[used-1] == 0 {
		return 0, 0
	}
	n := 0
	for i := used - 1; i >= 0; i-- {
		n = n*128 + int(s[i])%128
	}
	return n, used
}

// plainTree goes through all that is below a node, and it, in the order in which they end; false where that comes no end, or by no node.
func plainTree(m []impl.Tlv, i, level int, say func(i, level int)) bool {
	for _, kid := range m[i].Kids {
		if kid < 0 || kid >= i || !plainTree(m, kid, level+1, say) {
			return false
		}
	}
	say(i, level)
	return true
}

// plainNode is the text of a node of a message whose Kids are there.
func plainNode(m []impl.Tlv, i int) string {
	inside, first := m[i].Data, m[i].Tag
	if !m[i].Leaf {
		first += 128
		for _, kid := range m[i].Kids {
			inside += plainNode(m, kid)
		}
	}
	return string([]byte{byte(first)}) + plainLength(len(inside)) + inside
}

func plainTlvOk(m []impl.Tlv) bool {
	if len(m) < 1 || len(m) > 60 {
		return false
	}
	parents := make([]int, len(m))
	for i, x := range m {
		if x.Tag < 1 || x.Tag > 100 || x.Leaf && len(x.Kids) > 0 || !x.Leaf && x.Data != "" {
			return false
		}
		for _, kid := range x.Kids {
			if kid < 0 || kid >= i {
				return false
			}
			parents[kid]++
		}
	}
	for _, count := range parents[:len(m)-1] {
		if count != 1 {
			return false
		}
	}
	var ended []int
	deepest := 0
	plainTree(m, len(m)-1, 1, func(i, level int) { ended, deepest = append(ended, i), max(deepest, level) })
	return slices.IsSorted(ended) && deepest <= 8 && len(plainNode(m, len(m)-1)) <= 900
}

func plainShowTlv(m []impl.Tlv) string {
	if !plainTlvOk(m) {
		return ""
	}
	return plainNode(m, len(m)-1)
}

// plainOpen is a node whose bytes are not all read.
type plainOpen struct {
	node impl.Tlv
	end  int
}

// plainReadTlv goes from byte to byte, with all nodes that are open.
func plainReadTlv(s string) ([]impl.Tlv, int) {
	if len(s) > 900 {
		return nil, 4
	}
	var m []impl.Tlv
	open := []plainOpen{{end: len(s)}}
	at := 0
	for begun := 1; begun == 1 || len(open) > 1; begun++ {
		end := open[len(open)-1].end
		if begun > 60 {
			return nil, 4
		}
		if at == end {
			return nil, 1
		}
		tag := int(s[at]) & 127
		if tag == 0 || tag > 100 {
			return nil, 2
		}
		if len(open) > 8 {
			return nil, 3
		}
		length, used := plainReadLength(s[at+1 : end])
		from := at + 1 + used
		if used == 0 || length > end-from {
			return nil, 1
		}
		x := plainOpen{impl.Tlv{Tag: tag, Leaf: s[at] < 128}, from + length}
		at = from
		if x.node.Leaf {
			x.node.Data, at = s[from:x.end], x.end
		}
		open = append(open, x)
		for len(open) > 1 && at == open[len(open)-1].end {
			m = append(m, open[len(open)-1].node)
			open = open[:len(open)-1]
			above := &open[len(open)-1].node
			above.Kids = append(above.Kids, len(m)-1)
		}
	}
	if at < len(s) {
		return nil, 5
	}
	return m, 0
}

func plainTlvFind(m []impl.Tlv, path []int) (string, bool) {
	if !plainTlvOk(m) {
		return "", false
	}
	at := len(m) - 1
walking:
	for _, tag := range path {
		for _, kid := range m[at].Kids {
			if m[kid].Tag == tag {
				at = kid
				continue walking
			}
		}
		return "", false
	}
	return m[at].Data, m[at].Leaf
}

func sameTlv(a, b impl.Tlv) bool {
	return a.Tag == b.Tag && a.Leaf == b.Leaf && a.Data == b.Data && slices.Equal(a.Kids, b.Kids)
}

func sameMessage(a, b []impl.Tlv) bool { return slices.EqualFunc(a, b, sameTlv) }

func copiedMessage(m []impl.Tlv) []impl.Tlv {
	m = slices.Clone(m)
	for i := range m {
		m[i].Kids = slices.Clone(m[i].Kids)
	}
	return m
}

// messageWithRoom is the message with spare room behind each list, and a question whether that and the lists are as they were.
func messageWithRoom(m []impl.Tlv) ([]impl.Tlv, func() bool) {
	var asked []func() bool
	m = copiedMessage(m)
	for i := range m {
		m[i].Kids = roomBehind(&asked, m[i].Kids, -7)
	}
	m = roomBehind(&asked, m, impl.Tlv{Tag: -7})
	return m, func() bool {
		return !slices.ContainsFunc(asked, func(asItWas func() bool) bool { return !asItWas() })
	}
}

func (m *memories) addMessage(l []impl.Tlv) {
	addList(m, "a message", l)
	for _, x := range l {
		addList(m, "Kids", x.Kids)
		m.addTexts("Data", x.Data)
	}
}

// checkRead holds what is read of a text against plain words; asks that it is new memory, that a refusal reads nothing, and for promise 14: what is taken is what ShowTlv makes.
func checkRead(t *testing.T, what, s string) int {
	t.Helper()
	m, code := impl.ReadTlv(s)
	want, wanted := plainReadTlv(s)
	if code != wanted || !sameMessage(m, want) {
		t.Fatalf("%s: ReadTlv(%q) = %+v, %d, not %+v, %d", what, s, m, code, want, wanted)
	}
	if code != impl.TvOk {
		if len(m) != 0 {
			t.Fatalf("%s: of %q, that is refused by %d, %+v is read", what, s, code, m)
		}
		return code
	}
	if shown := impl.ShowTlv(m); shown != s || !impl.TlvOk(m) {
		t.Fatalf("%s: %q is taken, but of %+v it is %q that is made", what, s, m, shown)
	}
	var answered, given memories
	answered.addMessage(m)
	given.addTexts("the text", s)
	checkApart(t, what, answered, given)
	return code
}

func checkCodeOf(t *testing.T, what, s string, want int) {
	t.Helper()
	if got := checkRead(t, what, s); got != want {
		t.Errorf("%s: the code of %q is %d, not %d", what, s, got, want)
	}
}

// checkShown holds what is said and made of a message against plain words; asks that it is not changed, that its text is new memory, and that this is read back as the message.
func checkShown(t *testing.T, what string, m []impl.Tlv) string {
	t.Helper()
	handed, asItWas := messageWithRoom(m)
	right, s := impl.TlvOk(handed), impl.ShowTlv(handed)
	if right != plainTlvOk(m) || s != plainShowTlv(m) || right != (s != "") {
		t.Fatalf("%s: of %+v TlvOk says %v, ShowTlv %q", what, m, right, s)
	}
	if !asItWas() {
		t.Fatalf("%s: %+v was changed", what, m)
	}
	if !right {
		return ""
	}
	var answered, given memories
	answered.addTexts("the text", s)
	given.addMessage(handed)
	checkApart(t, what, answered, given)
	if back, code := impl.ReadTlv(s); code != impl.TvOk || !sameMessage(back, m) {
		t.Fatalf("%s: %+v is shown as %q, and read as %+v, %d", what, m, s, back, code)
	}
	return s
}

// checkRight asks for promise 14 of a message that is right: read back, and neither cut short nor with a byte more.
func checkRight(t *testing.T, what string, m []impl.Tlv) string {
	t.Helper()
	s := checkShown(t, what, m)
	if s == "" {
		t.Fatalf("%s: %+v is not right", what, m)
	}
	checkRead(t, what, s)
	for cut := range len(s) {
		// What is left begins with a root that wants more bytes.
		checkCodeOf(t, what+", cut short", s[:cut], impl.TvShort)
	}
	for _, more := range []string{"\x00", "\x01", "\x80", "\x81", "\xff", s[:1], s[len(s)-1:], "\x01\x00", s} {
		want := impl.TvTail
		if len(s)+len(more) > 900 {
			want = impl.TvMany
		}
		checkCodeOf(t, what+", with more", s+more, want)
	}
	return s
}

func checkWrong(t *testing.T, what string, m []impl.Tlv) {
	t.Helper()
	if s := checkShown(t, what, m); s != "" {
		t.Errorf("%s: %+v is right, and is %q", what, m, s)
	}
	for _, path := range [][]int{nil, {1}, {1, 1}, {0}} {
		if data, ok := impl.TlvFind(m, path); ok || data != "" {
			t.Errorf("%s: in %+v %q is found by %v", what, m, data, path)
		}
	}
}

func leafOf(tag int, data string) impl.Tlv { return impl.Tlv{Tag: tag, Leaf: true, Data: data} }

func nodeOf(tag int, kids ...int) impl.Tlv { return impl.Tlv{Tag: tag, Kids: kids} }

func message(nodes ...impl.Tlv) []impl.Tlv { return nodes }

// flat is a root with that many nodes below it, all of one kind.
func flat(below int, kid impl.Tlv) []impl.Tlv {
	return append(slices.Repeat(message(kid), below), nodeOf(1, numbersFrom(0, below)...))
}

// tower is that many nodes inside of each other.
func tower(height int, lowest impl.Tlv) []impl.Tlv {
	m := message(lowest)
	for i := range height - 1 {
		m = append(m, nodeOf(i+2, i))
	}
	return m
}

// raw is the text of a node that is no leaf, whatever is inside.
func raw(tag int, inside ...string) string {
	all := strings.Join(inside, "")
	return string([]byte{byte(128 + tag)}) + plainLength(len(all)) + all
}

// rawLeaf is that of a leaf.
func rawLeaf(tag int, data string) string {
	return string([]byte{byte(tag)}) + plainLength(len(data)) + data
}

// rawTower has s inside of that many nodes.
func rawTower(height int, s string) string {
	for i := range height {
		s = raw(i+1, s)
	}
	return s
}

// someMessage has a node of each kind: Data and none, Kids and none, two Kids of one Tag.
func someMessage() []impl.Tlv {
	return message(leafOf(5, "five"), leafOf(6, ""), nodeOf(7), nodeOf(3, 1, 2), leafOf(5, "again"), leafOf(9, "\x00\xff"), nodeOf(3, 5), nodeOf(100, 0, 3, 4, 6))
}

func TestTlvConstants(t *testing.T) {
	if impl.MaxTag != 100 || impl.MaxNodes != 60 || impl.MaxNest != 8 || impl.MaxBytes != 900 {
		t.Error(impl.MaxTag, impl.MaxNodes, impl.MaxNest, impl.MaxBytes)
	}
	codes := []int{impl.TvOk, impl.TvShort, impl.TvTag, impl.TvDeep, impl.TvMany, impl.TvTail}
	if !slices.Equal(codes, []int{0, 1, 2, 3, 4, 5}) {
		t.Error(codes)
	}
}

func TestTextsOfMessages(t *testing.T) {
	for _, x := range []struct {
		m    []impl.Tlv
		want string
	}{
		{message(leafOf(1, "")), "\x01\x00"},
		{message(leafOf(100, "hi")), "d\x02hi"},
		{message(nodeOf(1)), "\x81\x00"},
		{message(nodeOf(100)), "\xe4\x00"},
		{message(leafOf(2, "x"), nodeOf(1, 0)), "\x81\x03\x02\x01x"},
		{message(nodeOf(2), nodeOf(1, 0)), "\x81\x02\x82\x00"},
		{message(leafOf(2, "x"), leafOf(3, "yz"), nodeOf(1, 0, 1)), "\x81\x07\x02\x01x\x03\x02yz"},
		{message(leafOf(2, "x"), nodeOf(3, 0), nodeOf(1, 1)), "\x81\x05\x83\x03\x02\x01x"},
		{message(leafOf(1, "\x81\x00")), "\x01\x02\x81\x00"},
		{someMessage(), "\xe4\x19\x05\x04five\x83\x04\x06\x00\x87\x00\x05\x05again\x83\x04\x09\x02\x00\xff"},
	} {
		if got := checkRight(t, "a message", x.m); got != x.want {
			t.Errorf("ShowTlv(%+v) = %q, not %q", x.m, got, x.want)
		}
	}
}

func TestHowManyNodes(t *testing.T) {
	checkWrong(t, "no node", nil)
	checkWrong(t, "no node", []impl.Tlv{})
	for _, kid := range message(leafOf(2, ""), leafOf(2, "x"), nodeOf(2)) {
		checkRight(t, "1 node", message(kid))
		for _, count := range []int{2, 3, 59, 60} {
			checkRight(t, "a node and those below it", flat(count-1, kid))
		}
		for _, count := range []int{61, 62, 128, 1000} {
			checkWrong(t, "too many nodes", flat(count-1, kid))
		}
	}
	for count, right := range map[int]bool{60: true, 61: false} {
		// 7 nodes inside of each other, then leaves, all of them in one root.
		m := tower(7, nodeOf(1))
		for len(m) < count-1 {
			m = append(m, leafOf(2, ""))
		}
		m = append(m, nodeOf(1, numbersFrom(6, count-7)...))
		if right {
			checkRight(t, "60 nodes, 8 inside of each other", m)
		} else {
			checkWrong(t, "61 nodes, 8 inside of each other", m)
		}
	}
	checkWrong(t, "61 nodes, one of them nobody's", append(flat(59, leafOf(2, "")), leafOf(2, "")))
}

func TestTagsOfNodes(t *testing.T) {
	for tag := 1; tag <= 100; tag++ {
		for place := range 2 {
			m := message(leafOf(7, "x"), nodeOf(8, 0))
			m[place].Tag = tag
			checkRight(t, "a Tag", m)
		}
		checkRight(t, "a Tag", message(leafOf(tag, "")))
		checkRight(t, "a Tag", message(nodeOf(tag)))
	}
	// Some of these are right ones as a byte.
	for _, tag := range []int{0, 101, -1, -100, 127, 128, 129, 228, 229, 255, 256, 257, 385, 1 << 32, 1<<32 + 1, math.MaxInt, math.MinInt, math.MinInt + 1} {
		for _, m := range [][]impl.Tlv{message(leafOf(tag, "")), message(nodeOf(tag)), message(leafOf(tag, ""), nodeOf(1, 0)), message(nodeOf(tag), nodeOf(1, 0)), message(leafOf(1, ""), nodeOf(tag, 0))} {
			checkWrong(t, "a Tag that is none", m)
		}
	}
}

func TestLeavesAndOthers(t *testing.T) {
	checkRight(t, "no leaf, no Kids", message(nodeOf(1)))
	checkRight(t, "Kids that are no leaves and have no Kids", flat(3, nodeOf(1)))
	for _, m := range [][]impl.Tlv{
		message(leafOf(2, ""), impl.Tlv{Tag: 1, Leaf: true, Kids: []int{0}}),
		message(leafOf(2, ""), impl.Tlv{Tag: 1, Leaf: true, Data: "x", Kids: []int{0}}),
		message(impl.Tlv{Tag: 1, Leaf: true, Kids: []int{0}}),
		message(leafOf(2, ""), impl.Tlv{Tag: 1, Leaf: true, Kids: []int{0}}, nodeOf(1, 1)),
		message(leafOf(2, ""), impl.Tlv{Tag: 1, Leaf: true, Kids: []int{0}}, nodeOf(1, 0, 1)),
	} {
		checkWrong(t, "a leaf with a Kid", m)
	}
	for _, m := range [][]impl.Tlv{
		message(impl.Tlv{Tag: 1, Data: "x"}),
		message(impl.Tlv{Tag: 1, Data: "\x00"}),
		message(leafOf(2, ""), impl.Tlv{Tag: 1, Data: "x", Kids: []int{0}}),
		message(impl.Tlv{Tag: 1, Data: "\x01\x00"}, nodeOf(1, 0)),
	} {
		checkWrong(t, "Data of what is no leaf", m)
	}
}

func TestKidsThatAreNone(t *testing.T) {
	x := leafOf(2, "x")
	for what, l := range map[string][][]impl.Tlv{
		"its own node":     {message(nodeOf(1, 0)), message(x, nodeOf(1, 0, 1)), message(x, nodeOf(1, 1)), message(nodeOf(1, 0), nodeOf(1, 0))},
		"behind it":        {message(nodeOf(1, 1)), message(nodeOf(1, 1), x), message(nodeOf(1, 1), nodeOf(1, 0)), message(x, nodeOf(1, 0, 2)), message(x, nodeOf(1, math.MaxInt)), message(nodeOf(1, 1), x, nodeOf(1, 0))},
		"below 0":          {message(nodeOf(1, -1)), message(x, nodeOf(1, -1)), message(x, nodeOf(1, -1, 0)), message(x, nodeOf(1, 0, -1)), message(x, nodeOf(1, math.MinInt)), message(nodeOf(1, -1), nodeOf(1, 0)), message(nodeOf(1, -2, -1))},
		"twice in one":     {message(x, nodeOf(1, 0, 0)), message(x, x, nodeOf(1, 0, 1, 1)), message(x, x, nodeOf(1, 0, 1, 0)), message(x, x, nodeOf(1, 0, 0)), message(x, x, nodeOf(1, 1, 1))},
		"in two nodes":     {message(x, nodeOf(1, 0), nodeOf(1, 0, 1)), message(x, nodeOf(1, 0), nodeOf(1, 1, 0)), message(x, nodeOf(1, 0), nodeOf(1, 0)), message(x, nodeOf(1, 0), nodeOf(1, 0), nodeOf(1, 1, 2)), message(x, x, nodeOf(1, 0, 1), nodeOf(1, 1, 2))},
		"nobody's":         {message(x, x), message(x, nodeOf(1)), message(x, x, nodeOf(1, 0)), message(x, x, nodeOf(1, 1)), message(nodeOf(1), x, nodeOf(1, 1)), message(x, x, x), message(x, nodeOf(1, 0), x), message(x, nodeOf(1, 0), nodeOf(1))},
		"not in the order": {message(x, x, nodeOf(1, 1, 0)), message(x, x, x, nodeOf(1, 0, 2, 1)), message(x, x, nodeOf(2, 0), nodeOf(1, 1, 2)), message(x, x, nodeOf(2, 0), nodeOf(1, 2, 1)), message(x, x, x, nodeOf(2, 0, 2), nodeOf(1, 1, 3)), message(x, x, nodeOf(2, 1), nodeOf(2, 0), nodeOf(1, 2, 3)), message(x, x, x, nodeOf(2, 1), nodeOf(1, 0, 2, 3))},
	} {
		for _, m := range l {
			checkWrong(t, "a Kid "+what, m)
		}
	}
	checkWrong(t, "more Kids than there are", message(nodeOf(1, make([]int, 1<<20)...)))
	checkWrong(t, "more Kids than there are", message(x, nodeOf(1, make([]int, 1<<20)...)))
}

func TestInsideOfEachOther(t *testing.T) {
	for _, lowest := range message(leafOf(1, ""), leafOf(1, "x"), nodeOf(1)) {
		for height := 1; height <= 8; height++ {
			checkRight(t, "inside of each other", tower(height, lowest))
		}
		for height := 9; height <= 11; height++ {
			checkWrong(t, "too deep", tower(height, lowest))
		}
		// Wherever the tower stands, it is deep.
		for height, right := range map[int]bool{7: true, 8: false} {
			ahead := append(tower(height, lowest), leafOf(1, ""), nodeOf(1, height-1, height))
			behind := append(message(leafOf(1, "")), tower(height, lowest)...)
			for i := 2; i < len(behind); i++ {
				behind[i] = nodeOf(1, i-1)
			}
			behind = append(behind, nodeOf(1, 0, height))
			for _, m := range [][]impl.Tlv{ahead, behind} {
				if right {
					checkRight(t, "a tower among others", m)
				} else {
					checkWrong(t, "a tower too deep among others", m)
				}
			}
		}
	}
}

func TestBytesOfAText(t *testing.T) {
	for height := 1; height <= 8; height++ {
		// Each node has a Tag and a length of two bytes.
		m := tower(height, leafOf(1, strings.Repeat("x", 900-3*height)))
		if s := checkRight(t, "900 bytes", m); len(s) != 900 {
			t.Errorf("%+v has %d bytes", m, len(s))
		}
		m[0].Data += "x"
		checkWrong(t, "901 bytes", m)
		m[0].Data = m[0].Data[2:]
		if s := checkRight(t, "899 bytes", m); len(s) != 899 {
			t.Errorf("%+v has %d bytes", m, len(s))
		}
	}
	m := flat(3, leafOf(2, strings.Repeat("x", 296)))
	if s := checkRight(t, "900 bytes of three", m); len(s) != 900 {
		t.Errorf("%d bytes", len(s))
	}
	for i := range 3 {
		more := copiedMessage(m)
		more[i].Data += "x"
		checkWrong(t, "901 bytes of three", more)
	}
	long := strings.Repeat("x", 1<<20)
	checkWrong(t, "far more bytes", message(leafOf(1, long)))
	checkWrong(t, "far more bytes", flat(59, leafOf(1, long[:1<<15])))
	checkWrong(t, "each with 900 bytes", flat(59, leafOf(1, long[:897])))
}

func TestDataOfALeaf(t *testing.T) {
	for i := range 256 {
		b := string([]byte{byte(i)})
		checkRight(t, "a byte", message(leafOf(1, b)))
		checkRight(t, "a byte inside", message(leafOf(1, b), leafOf(2, b+b), nodeOf(1, 0, 1)))
	}
	checkRight(t, "all bytes", message(leafOf(1, allBytes())))
	for n, length := range map[int]string{0: "\x00", 1: "\x01", 126: "\x7e", 127: "\x7f", 128: "\x80\x01", 129: "\x81\x01", 255: "\xff\x01", 256: "\x80\x02", 896: "\x80\x07", 897: "\x81\x07"} {
		data := strings.Repeat("d", n)
		if got := checkRight(t, "Data", message(leafOf(3, data))); got != "\x03"+length+data {
			t.Errorf("%d bytes of Data are shown as %q", n, got)
		}
	}
}

// kidsOf is a root whose Kids have so many bytes in all, each of them a length of one byte.
func kidsOf(bytes int) []impl.Tlv {
	var m []impl.Tlv
	for bytes > 0 {
		size := bytes
		if bytes > 102 {
			size = 100
		}
		m = append(m, leafOf(4, strings.Repeat("d", size-2)))
		bytes -= size
	}
	return append(m, nodeOf(3, numbersFrom(0, len(m))...))
}

func TestLengthsOfKids(t *testing.T) {
	for n, length := range map[int]string{0: "\x00", 2: "\x02", 3: "\x03", 126: "\x7e", 127: "\x7f", 128: "\x80\x01", 129: "\x81\x01", 255: "\xff\x01", 256: "\x80\x02", 897: "\x81\x07"} {
		if got := checkRight(t, "Kids", kidsOf(n)); !strings.HasPrefix(got, "\x83"+length) || len(got) != 1+len(length)+n {
			t.Errorf("%d bytes of Kids are shown as %q", n, got)
		}
	}
	checkWrong(t, "Kids of too many bytes", kidsOf(898))
}

func TestFirstBytesOfANode(t *testing.T) {
	checkCodeOf(t, "no byte", "", impl.TvShort)
	for i := range 256 {
		b := string([]byte{byte(i)})
		alone, node := impl.TvShort, impl.TvOk
		if i%128 < 1 || i%128 > 100 {
			alone, node = impl.TvTag, impl.TvTag
		}
		checkCodeOf(t, "one byte", b, alone)
		checkCodeOf(t, "a node", b+"\x00", node)
		checkCodeOf(t, "one byte inside", raw(1, b), alone)
		checkCodeOf(t, "a node inside", raw(1, b+"\x00"), node)
		checkCodeOf(t, "a node behind another one inside", raw(1, "\x01\x00", b+"\x00"), node)
	}
	for b, want := range map[string]int{"\x00": impl.TvTag, "\x01": impl.TvOk, "d": impl.TvOk, "e": impl.TvTag, "\x7f": impl.TvTag, "\x80": impl.TvTag, "\x81": impl.TvOk, "\xe4": impl.TvOk, "\xe5": impl.TvTag, "\xff": impl.TvTag} {
		checkCodeOf(t, "a Tag", b+"\x00", want)
	}
}

func TestLengthsThatAreNone(t *testing.T) {
	for _, first := range []string{"\x01", "\x81"} {
		for _, s := range []string{
			"\x80", "\xff", "\x80\x80", "\xff\xff\xff", strings.Repeat("\xff", 7), strings.Repeat("\xff", 100), strings.Repeat("\x80", 800),
			"\x80\x00", "\x81\x00", "\x81\x00x", "\x82\x00\x01\x00", "\x82\x80\x00\x01\x00", "\xff\x00", "\x82\x80\x80\x80\x80\x80\x00\x01\x00", "\x82\x80\x80\x80\x80\x80\x80\x00\x01\x00",
			strings.Repeat("\x80", 7) + "\x01", strings.Repeat("\x80", 8) + "\x01\x01\x00", strings.Repeat("\xff", 9) + "\x01", strings.Repeat("\xff", 9) + "\x7f\x01\x00",
		} {
			checkCodeOf(t, "no Var", first+s, impl.TvShort)
			checkCodeOf(t, "no Var inside", raw(9, first+s), impl.TvShort)
			checkCodeOf(t, "no Var inside, behind another node", raw(9, "\x01\x00", first+s), impl.TvShort)
		}
		// The Var goes on behind the node that it is in.
		checkCodeOf(t, "a Var cut by an end", "\x81\x02"+first+"\x80\x01", impl.TvShort)
		checkCodeOf(t, "a Var cut by an end", "\x81\x01"+first+"\x00", impl.TvShort)
		checkCodeOf(t, "a Var cut by an end", "\x81\x06\x81\x02"+first+"\x80\x01\x00", impl.TvShort)
	}
}

func TestLengthsTooGreat(t *testing.T) {
	lengths := []int{3, 4, 100, 127, 128, 897, 900, 901, 16383, 16384, 1 << 20, 1<<31 - 1, 1 << 31, 1<<32 - 1, 1 << 32, 1<<32 + 1, 1<<32 + 2, 1 << 48, impl.MaxVar - 1, impl.MaxVar}
	for _, n := range lengths {
		for _, first := range []string{"\x01", "\x81"} {
			s := first + impl.Var(n)
			for _, held := range []string{"", "\x01", "\x01\x00"} {
				checkCodeOf(t, "more than there is", s+held, impl.TvShort)
				checkCodeOf(t, "more than there is inside", raw(1, s+held), impl.TvShort)
				checkCodeOf(t, "more than there is inside, and bytes behind", raw(1, s+held)+"\x01\x00\x01\x00", impl.TvShort)
				checkCodeOf(t, "more than there is inside of two", raw(2, raw(1, s+held), "\x01\x00\x01\x00"), impl.TvShort)
			}
		}
	}
	// Just as many as there are, and one more.
	for n := range 300 {
		data := strings.Repeat("\x01", n)
		checkCodeOf(t, "as many as there are", "\x01"+impl.Var(n)+data, impl.TvOk)
		checkCodeOf(t, "one more", "\x01"+impl.Var(n+1)+data, impl.TvShort)
		checkCodeOf(t, "as many as there are inside", raw(2, "\x01"+impl.Var(n)+data), impl.TvOk)
		checkCodeOf(t, "one more inside", raw(2, "\x01"+impl.Var(n+1)+data), impl.TvShort)
		checkCodeOf(t, "one more inside, and a node behind it", raw(3, raw(2, "\x01"+impl.Var(n+1)+data), "\x01\x00"), impl.TvShort)
	}
	checkCodeOf(t, "past the end of what it is in", "\x81\x03\x01\x02hhh", impl.TvShort)
	checkCodeOf(t, "past the end of what it is in", "\x82\x07\x81\x03\x01\x02h\x01\x00", impl.TvShort)
	checkCodeOf(t, "past the end of what it is in", "\x82\x06\x81\x02\x81\x02\x01\x00", impl.TvShort)
}

func TestTextsTooMany(t *testing.T) {
	for count := 58; count <= 63; count++ {
		want := impl.TvOk
		if count > 60 {
			want = impl.TvMany
		}
		for _, kid := range []string{"\x01\x00", "\x02\x01x", "\x83\x00"} {
			kids := strings.Repeat(kid, count-1)
			checkCodeOf(t, "nodes in a row", raw(1, kids), want)
			checkCodeOf(t, "nodes inside of others", rawTower(3, strings.Repeat(kid, count-3)), want)
			checkCodeOf(t, "nodes in two", raw(1, raw(2, strings.Repeat(kid, 20)), raw(3, strings.Repeat(kid, count-23))), want)
		}
	}
	for bytes, want := range map[int]int{899: impl.TvOk, 900: impl.TvOk, 901: impl.TvMany, 902: impl.TvMany, 5000: impl.TvMany, 1 << 20: impl.TvMany} {
		checkCodeOf(t, "a leaf", rawLeafOf(bytes), want)
		checkCodeOf(t, "a leaf inside", raw(2, rawLeafOf(bytes-3)), map[bool]int{true: impl.TvOk, false: impl.TvMany}[bytes <= 900])
	}
}

// rawLeafOf is a leaf that has so many bytes in all.
func rawLeafOf(bytes int) string {
	for n := bytes; ; n-- {
		if s := rawLeaf(1, strings.Repeat("x", n)); len(s) <= bytes {
			return s
		}
	}
}

func TestTextsTooDeep(t *testing.T) {
	for _, s := range []string{"\x01\x00", "\x01\x01x", "\x81\x00"} {
		for height := range 12 {
			want := impl.TvOk
			if height > 7 {
				want = impl.TvDeep
			}
			checkCodeOf(t, "inside of others", rawTower(height, s), want)
			checkCodeOf(t, "inside of others, behind a node", raw(1, "\x01\x00", rawTower(height, s)), map[bool]int{true: impl.TvOk, false: impl.TvDeep}[height <= 6])
			checkCodeOf(t, "inside of others, ahead of a node", raw(1, rawTower(height, s), "\x01\x00"), map[bool]int{true: impl.TvOk, false: impl.TvDeep}[height <= 6])
		}
	}
	checkCodeOf(t, "8 nodes without a Kid in the last one", rawTower(8, ""), impl.TvOk)
	checkCodeOf(t, "9 nodes without a Kid in the last one", rawTower(9, ""), impl.TvDeep)
}

func TestBytesBehindTheRoot(t *testing.T) {
	for i := range 256 {
		b := string([]byte{byte(i)})
		for _, s := range []string{"\x01\x00", "\x81\x00", "\x01\x01x", raw(1, "\x01\x00")} {
			checkCodeOf(t, "a byte behind", s+b, impl.TvTail)
			checkCodeOf(t, "bytes behind", s+b+s, impl.TvTail)
		}
	}
	checkCodeOf(t, "another root behind", "\x01\x00\x01\x00", impl.TvTail)
	checkCodeOf(t, "60 nodes, and another root behind", raw(1, strings.Repeat("\x01\x00", 59))+"\x01\x00", impl.TvTail)
	checkCodeOf(t, "8 nodes, and another root behind", rawTower(8, "")+"\x01\x00", impl.TvTail)
}

func TestTheEarlierQuestion(t *testing.T) {
	full := strings.Repeat("\x01\x00", 59)
	for _, x := range []struct {
		what, s string
		want    int
	}{
		{"901 bytes, no Tag", strings.Repeat("\x00", 901), impl.TvMany},
		{"901 bytes, too short", "\x01\xff\x07" + strings.Repeat("x", 898), impl.TvMany},
		{"901 bytes, some behind", "\x01\x00" + strings.Repeat("x", 899), impl.TvMany},
		{"900 bytes, some behind", "\x01\x00" + strings.Repeat("x", 898), impl.TvTail},
		{"901 bytes, too deep", rawTower(9, "") + strings.Repeat("x", 883), impl.TvMany},
		{"a 61st node that has no Tag", raw(1, full, "\x00\x00"), impl.TvMany},
		{"a 61st node that has no Var", raw(1, full, "\x01"), impl.TvMany},
		{"a 61st node that is too short", raw(1, full, "\x01\x05"), impl.TvMany},
		{"a 61st node that is too deep", raw(1, strings.Repeat("\x01\x00", 52), rawTower(8, "")), impl.TvMany},
		{"a 60th node that is too deep", raw(1, strings.Repeat("\x01\x00", 51), rawTower(8, "")), impl.TvDeep},
		{"a 60th node that has no Tag", raw(1, full[2:], "\x00\x00", "\x01\x00"), impl.TvTag},
		{"a 60th node that is too short", raw(1, full[2:], "\x01\x05"), impl.TvShort},
		{"a 61st node, and bytes behind the root", raw(1, full, "\x01\x00") + "x", impl.TvMany},
		{"a node without a Tag and a Var", "\x00", impl.TvTag},
		{"a node without a Tag, too short", "e\x05", impl.TvTag},
		{"a node inside of 8 without a Tag", rawTower(8, "\x00\x00"), impl.TvTag},
		{"a node inside of 8 without a Tag, too short", rawTower(8, "\xff"), impl.TvTag},
		{"a node inside of 8 without a Var", rawTower(8, "\x01"), impl.TvDeep},
		{"a node inside of 8 that is too short", rawTower(8, "\x01\x05"), impl.TvDeep},
		{"a node inside of 8 whose Var is too long", rawTower(8, "\x01\x80\x00"), impl.TvDeep},
		{"a node inside of 8, and bytes behind the root", rawTower(9, "") + "x", impl.TvDeep},
		{"a root that is too short, and what is below it has no Tag", "\x81\x05\x00\x00", impl.TvShort},
		{"a node that is too short, and what is below it has no Tag", raw(1, "\x82\x05\x00\x00"), impl.TvShort},
		{"a root without a Tag, and what is below it is too short", "\xe5\x01\x01", impl.TvTag},
		{"the first has no Tag, the second is too short", raw(1, "\x00\x00", "\x01\x05"), impl.TvTag},
		{"the first is too short, the second has no Tag", raw(1, "\x01\x05", "\x00\x00"), impl.TvShort},
		{"below the first there is no Tag, the second is too short", raw(1, raw(2, "\x00\x00"), "\x01\x05"), impl.TvTag},
		{"below the first one is too short, the second has no Tag", raw(1, raw(2, "\x01\x05"), "\x00\x00"), impl.TvShort},
		{"the first is too deep, the second has no Tag", raw(1, rawTower(8, ""), "\x00\x00"), impl.TvDeep},
		{"the first has no Tag, the second is too deep", raw(1, "\x00\x00", rawTower(8, "")), impl.TvTag},
		{"no Tag, and bytes behind the root", raw(1, "\x00\x00") + "x", impl.TvTag},
		{"too short, and bytes behind the root", raw(1, "\x01\x05") + "x", impl.TvShort},
		{"no Tag, and then too many nodes", raw(1, "\x00\x00", full, full), impl.TvTag},
		{"too short, and then too many nodes", raw(1, raw(2, "\x01\x05"), full, full), impl.TvShort},
		{"too deep, and then too many nodes", raw(1, rawTower(8, ""), full, full), impl.TvDeep},
		{"too many nodes, and then no Tag", raw(1, full, full, "\x00\x00"), impl.TvMany},
		{"too many nodes, and then too deep", raw(1, full, full, rawTower(8, "")), impl.TvMany},
	} {
		checkCodeOf(t, x.what, x.s, x.want)
	}
}

func TestEveryShortText(t *testing.T) {
	count := map[int]int{}
	everyText("\x00\x01\x02\x04\x65\x81\x82\x80", 6, func(s string) { count[checkRead(t, "a short text", s)]++ })
	for _, code := range []int{impl.TvOk, impl.TvShort, impl.TvTag, impl.TvTail} {
		if count[code] < 100 {
			t.Errorf("the code %d is told %d times", code, count[code])
		}
	}
	everyText("\x01\x02\x81\x84", 8, func(s string) { checkRead(t, "a text of few bytes", s) })
}

// everyMessage calls say with each message of so many nodes, all of Tag 1, with Kids from least to greatest, and at most most of them.
func everyMessage(nodes, least, greatest, most int, leaf bool, say func(m []impl.Tlv)) {
	var lists [][]int
	var growList func(l []int)
	growList = func(l []int) {
		lists = append(lists, l)
		for kid := least; kid <= greatest && len(l) < most; kid++ {
			growList(append(slices.Clone(l), kid))
		}
	}
	growList(nil)
	var grow func(m []impl.Tlv)
	grow = func(m []impl.Tlv) {
		if len(m) == nodes {
			say(m)
			return
		}
		for _, l := range lists {
			grow(append(slices.Clone(m), impl.Tlv{Tag: 1, Kids: l}))
			if leaf {
				grow(append(slices.Clone(m), impl.Tlv{Tag: 1, Leaf: true, Kids: l}))
			}
		}
	}
	grow(nil)
}

func TestEverySmallMessage(t *testing.T) {
	// Trees whose order counts: 1, 1, 2 and 5 of 1 to 4 nodes; what has no Kids is a leaf or none.
	for _, x := range []struct {
		nodes, least, greatest, most int
		leaf                         bool
		want                         int
	}{
		{1, -1, 2, 2, true, 2}, {2, -1, 2, 2, true, 2}, {3, -1, 3, 2, true, 6}, {1, -1, 1, 3, false, 1}, {2, -1, 2, 3, false, 1}, {3, 0, 2, 3, false, 2}, {4, 0, 2, 3, false, 5},
	} {
		right := map[string]int{}
		everyMessage(x.nodes, x.least, x.greatest, x.most, x.leaf, func(m []impl.Tlv) {
			// All of it is asked only where one of both says that it is right.
			if impl.TlvOk(m) || plainTlvOk(m) {
				right[checkRight(t, "a small message", m)]++
			} else if s := impl.ShowTlv(m); s != "" {
				t.Errorf("%+v is shown as %q", m, s)
			}
		})
		if len(right) != x.want {
			t.Errorf("of %d nodes there are %d texts, not %d: %v", x.nodes, len(right), x.want, right)
		}
		for s, times := range right {
			if times != 1 {
				t.Errorf("%q is the text of %d messages", s, times)
			}
		}
	}
}

func checkFound(t *testing.T, what string, m []impl.Tlv, path []int) (string, bool) {
	t.Helper()
	handed, asItWas := messageWithRoom(m)
	way := slices.Clone(path)
	data, ok := impl.TlvFind(handed, way)
	if want, found := plainTlvFind(m, path); data != want || ok != found {
		t.Fatalf("%s: TlvFind(%+v, %v) = %q, %v, not %q, %v", what, m, path, data, ok, want, found)
	}
	if !asItWas() || !slices.Equal(way, path) {
		t.Fatalf("%s: %+v or %v was changed", what, m, path)
	}
	var answered, given memories
	answered.addTexts("what is found", data)
	given.addMessage(handed)
	checkApart(t, what, answered, given)
	return data, ok
}

func TestFindByPaths(t *testing.T) {
	some := someMessage()
	alone := message(leafOf(4, "root"))
	deep := tower(8, leafOf(1, "down"))
	hidden := message(leafOf(2, ""), leafOf(3, "x"), nodeOf(2, 1), nodeOf(1, 0, 2))
	both := message(nodeOf(2), leafOf(2, "second"), nodeOf(1, 0, 1))
	for _, x := range []struct {
		what string
		m    []impl.Tlv
		path []int
		want string
		ok   bool
	}{
		{"an empty path to a root that is no leaf", some, nil, "", false},
		{"an empty path to a root that is a leaf", alone, nil, "root", true},
		{"an empty path to a root that is a leaf", alone, []int{}, "root", true},
		{"an empty path to a leaf without Data", message(leafOf(4, "")), nil, "", true},
		{"an empty path to a node without Kids", message(nodeOf(4)), nil, "", false},
		{"the Tag of the root", alone, []int{4}, "", false},
		{"the Tag of the root", some, []int{100}, "", false},
		{"the Tag of the root ahead", some, []int{100, 5}, "", false},
		{"the first of two leaves", some, []int{5}, "five", true},
		{"a leaf without Data", some, []int{3, 6}, "", true},
		{"a node that is no leaf", some, []int{3}, "", false},
		{"a node that is no leaf and has no Kids", some, []int{3, 7}, "", false},
		{"behind a leaf", some, []int{5, 5}, "", false},
		{"behind a leaf", some, []int{3, 6, 6}, "", false},
		{"behind a node without Kids", some, []int{3, 7, 1}, "", false},
		{"below the second of two", some, []int{3, 9}, "", false},
		{"a Tag that is not there", some, []int{4}, "", false},
		{"a Tag that is not there, ahead of one that is", some, []int{4, 5}, "", false},
		{"a Tag that is further down", some, []int{6}, "", false},
		{"a Tag that is none", some, []int{0}, "", false},
		{"a Tag that is none", some, []int{-1}, "", false},
		{"a Tag that is none", some, []int{5 + 256}, "", false},
		{"a Tag with 128", some, []int{128 + 3, 6}, "", false},
		{"the least and the greatest number", some, []int{math.MinInt, math.MaxInt}, "", false},
		{"a long path", some, make([]int, 1<<20), "", false},
		{"a long path of one Tag", some, slices.Repeat([]int{5}, 1<<20), "", false},
		{"8 nodes", deep, []int{7, 6, 5, 4, 3, 2, 1}, "down", true},
		{"8 nodes, cut short", deep, []int{7, 6, 5, 4, 3, 2}, "", false},
		{"8 nodes, and on", deep, []int{7, 6, 5, 4, 3, 2, 1, 1}, "", false},
		{"8 nodes, turned round", deep, []int{1, 2, 3, 4, 5, 6, 7}, "", false},
		{"the first of that Tag is a leaf, the second has it", hidden, []int{2, 3}, "", false},
		{"the first of that Tag is a leaf", hidden, []int{2}, "", true},
		{"the first of that Tag is no leaf, the second is", both, []int{2}, "", false},
	} {
		if data, ok := checkFound(t, x.what, x.m, x.path); data != x.want || ok != x.ok {
			t.Errorf("%s: TlvFind(%+v, %v) = %q, %v", x.what, x.m, x.path, data, ok)
		}
	}
	for _, spoil := range []func(m []impl.Tlv){
		func(m []impl.Tlv) { m[0].Tag = 101 },
		func(m []impl.Tlv) { m[5].Tag = 0 },
		func(m []impl.Tlv) { m[2].Data = "x" },
		func(m []impl.Tlv) { m[7].Kids = []int{0, 3, 4} },
		func(m []impl.Tlv) { m[7].Kids = []int{0, 3, 4, 6, 6} },
		func(m []impl.Tlv) { m[7].Kids = []int{0, 4, 3, 6} },
		func(m []impl.Tlv) { m[5].Data = strings.Repeat("x", 900) },
	} {
		m := someMessage()
		spoil(m)
		for _, path := range [][]int{nil, {5}, {3, 6}, {3, 9}} {
			if data, ok := checkFound(t, "not right", m, path); ok || data != "" {
				t.Errorf("in %+v, which is not right, %q is found by %v", m, data, path)
			}
		}
	}
}

// anyData are mostly few bytes, and sometimes so many that the length takes two.
func anyData(r *rand.Rand) string {
	n := r.Intn(5)
	if r.Intn(12) == 0 {
		n = anyOf(r, []int{126, 127, 128, 129, 200, 400})
	}
	data := make([]byte, n)
	for i := range data {
		data[i] = byte(anyOf(r, []int{0, 1, 2, 127, 128, 129, 228, 255, r.Intn(256)}))
	}
	return string(data)
}

// anyMessage has about as many nodes as wanted; it may be too deep, too many, or too long.
func anyMessage(r *rand.Rand, wanted int) []impl.Tlv {
	var m []impl.Tlv
	highest := anyOf(r, []int{2, 4, 8, 9})
	var grow func(wanted, level int) int
	grow = func(wanted, level int) int {
		x := impl.Tlv{Tag: anyOf(r, []int{1, 2, 3, 100, 1 + r.Intn(100)})}
		switch {
		case level == highest || wanted <= 1 && r.Intn(4) > 0:
			x.Leaf, x.Data = true, anyData(r)
		default:
			for wanted--; wanted > 0; {
				part := 1 + r.Intn(wanted)
				x.Kids = append(x.Kids, grow(part, level+1))
				wanted -= part
			}
		}
		m = append(m, x)
		return len(m) - 1
	}
	grow(wanted, 1)
	return m
}

// spoilMessage changes one thing of a message, which may be right behind it, too.
func spoilMessage(r *rand.Rand, m []impl.Tlv) []impl.Tlv {
	m = copiedMessage(m)
	i, j := r.Intn(len(m)), r.Intn(len(m))
	x := &m[i]
	switch r.Intn(9) {
	case 0:
		x.Tag = anyOf(r, []int{-1, 0, 1, 100, 101, 129, 257})
	case 1:
		x.Leaf = !x.Leaf
	case 2:
		x.Data += "x"
	case 3:
		x.Kids = append(x.Kids, anyOf(r, []int{-1, i - 1, i, i + 1, j, len(m)}))
	case 4:
		if len(x.Kids) > 0 {
			x.Kids = x.Kids[1:]
		}
	case 5:
		if len(x.Kids) > 0 {
			x.Kids[r.Intn(len(x.Kids))] += 1 - 2*r.Intn(2)
		}
	case 6:
		slices.Reverse(x.Kids)
	case 7:
		m[i], m[j] = m[j], m[i]
	case 8:
		m = slices.Delete(m, i, i+1)
	}
	return m
}

func TestAnyMessage(t *testing.T) {
	r := rand.New(rand.NewSource(14))
	right, wrong := 0, 0
	for range 1500 {
		m := anyMessage(r, 1+r.Intn(anyOf(r, []int{3, 12, 40, 64})))
		if plainTlvOk(m) {
			right++
			checkRight(t, "any message", m)
		} else {
			wrong++
			checkWrong(t, "any message that is not right", m)
		}
		for range 6 {
			if spoiled := spoilMessage(r, m); !plainTlvOk(spoiled) {
				wrong++
				checkWrong(t, "any message spoiled", spoiled)
			} else {
				checkShown(t, "any message turned", spoiled)
			}
		}
		path := []int{}
		for range r.Intn(4) {
			path = append(path, anyOf(r, []int{1, 2, 3, 100, m[r.Intn(len(m))].Tag}))
		}
		checkFound(t, "any message", m, path)
		checkFound(t, "any message", m, pathIn(r, m))
	}
	if right < 500 || wrong < 2000 {
		t.Errorf("%d messages are right, %d are not", right, wrong)
	}
}

// pathIn goes down from the root, by Kids that are there.
func pathIn(r *rand.Rand, m []impl.Tlv) []int {
	path := []int{}
	for at := len(m) - 1; len(m[at].Kids) > 0 && r.Intn(8) > 0; {
		at = anyOf(r, m[at].Kids)
		path = append(path, m[at].Tag)
	}
	return path
}

// anyRaw is the text of a node, and what is in it, of which here and there something is wrong.
func anyRaw(r *rand.Rand, level, wrong int) string {
	first := anyOf(r, []int{1, 2, 100, 1 + r.Intn(100)})
	if r.Intn(wrong) == 0 {
		first = anyOf(r, []int{0, 101, 127, r.Intn(128)})
	}
	inside := ""
	if r.Intn(3) > 0 && level < 10 {
		first += 128
		for range r.Intn(4) {
			inside += anyRaw(r, level+1, wrong)
		}
	} else {
		inside = anyData(r)
	}
	length := plainLength(len(inside))
	if r.Intn(wrong) == 0 {
		length = anyOf(r, []string{"", "\x80", impl.Var(len(inside) + 1), impl.Var(max(0, len(inside)-1)), impl.Var(impl.MaxVar), length + "\x00", strings.Repeat("\xff", 8)})
	}
	return string([]byte{byte(first)}) + length + inside
}

// turnedText changes a byte, puts one in, takes one away, or doubles a piece.
func turnedText(r *rand.Rand, s string) string {
	i := r.Intn(len(s) + 1)
	j := min(len(s), i+1+r.Intn(4))
	b := string([]byte{byte(anyOf(r, []int{0, 1, 2, 100, 101, 128, 129, 228, 229, 255, r.Intn(256)}))})
	switch r.Intn(4) {
	case 0:
		return s[:i] + b + s[min(len(s), i+1):]
	case 1:
		return s[:i] + b + s[i:]
	case 2:
		return s[:i] + s[j:]
	}
	return s[:j] + s[i:]
}

func TestAnyTextOfAMessage(t *testing.T) {
	r := rand.New(rand.NewSource(41))
	count := map[int]int{}
	for range 40000 {
		s := anyRaw(r, 1, anyOf(r, []int{5, 30, 1000}))
		count[checkRead(t, "any text", s)]++
		for range 3 {
			s = turnedText(r, s)
			count[checkRead(t, "any text turned", s)]++
		}
	}
	for range 300 {
		s := impl.ShowTlv(anyMessage(r, 1+r.Intn(64)))
		for range 20 {
			count[checkRead(t, "any message turned", turnedText(r, s))]++
		}
		if kids := strings.Repeat("\x01\x00", 40+r.Intn(30)); s != "" {
			count[checkRead(t, "many nodes", raw(1, s, kids))]++
			count[checkRead(t, "many nodes", raw(1, kids, s))]++
		}
	}
	for code := impl.TvOk; code <= impl.TvTail; code++ {
		if count[code] < 30 {
			t.Errorf("the code %d is told %d times of %v", code, count[code], count)
		}
	}
}

func TestTlvInOtherOrders(t *testing.T) {
	// What is told does not hang on what was told ahead of it.
	some := someMessage()
	want := impl.ShowTlv(some)
	for range 3 {
		impl.ReadTlv("\x81\x02\x00\x00")
		impl.ShowTlv(message(leafOf(0, "")))
		m, code := impl.ReadTlv(want)
		if got := impl.ShowTlv(some); got != want || code != impl.TvOk || !sameMessage(m, some) {
			t.Errorf("%q, %+v, %d", got, m, code)
		}
		// An answer may be written into.
		for i := range m {
			overwritten(m[i].Kids, -1)
		}
		overwritten(m, impl.Tlv{})
	}
}
