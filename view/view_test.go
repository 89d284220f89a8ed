package view

import (
	"crypto/sha256"
	"encoding/binary"
	"math"
	"math/rand"
	"slices"
	"strings"
	"testing"

	"carillon/api"
)

const (
	manyNodes  = 8
	manyViews  = 256
	manyRounds = 1 << 20
)

// notViews are numbers that have other bits than those of nodes.
var notViews = []int{
	-1, -2, -5, -128, -255, -256, 256, 257, 261, 511, 512, 1 << 16, 1<<16 + 5, 1 << 31, 1 << 32, 1<<32 + 5, -1 << 32, 1<<62 + 1,
	math.MaxInt, math.MinInt, math.MinInt + 5, math.MaxInt32, math.MinInt32, math.MaxInt - 255,
}

// notNodes are numbers that no node has.
var notNodes = []int{
	-1, -2, -8, -64, 8, 9, 16, 31, 32, 63, 64, 65, 128, 256, 1 << 32, 1<<32 + 2, -1 << 32, math.MaxInt, math.MinInt, math.MinInt + 2, math.MaxInt32, math.MinInt32,
}

// notRounds are numbers that no round has.
var notRounds = []int{-1, -2, -manyRounds, manyRounds, manyRounds + 1, 2 * manyRounds, 1 << 32, 1<<32 + 9, -1 << 32, math.MaxInt, math.MinInt, math.MinInt + 9, math.MaxInt32, math.MinInt32}

// wordsList tells the nodes of a right view by halving: what is left over at the i-th step says whether node i is there.
func wordsList(v int) []int {
	var nodes []int
	for i := range manyNodes {
		if v%2 == 1 {
			nodes = append(nodes, i)
		}
		v /= 2
	}
	return nodes
}

// wordsOf adds up what the bits of the nodes are worth, each once.
func wordsOf(nodes []int) int {
	v := 0
	for i, worth := range []int{1, 2, 4, 8, 16, 32, 64, 128} {
		if slices.Contains(nodes, i) {
			v += worth
		}
	}
	return v
}

func wordsRight(v int) bool {
	return 0 <= v && v <= 255
}

func wordsNode(i int) bool {
	return 0 <= i && i <= 7
}

func wordsText(v int) string {
	text := ""
	for _, i := range wordsList(v) {
		text += "," + "01234567"[i:i+1]
	}
	if text == "" {
		return "-"
	}
	return text[1:]
}

// wordsParse looks at bytes by their places: a digit has one byte, so that all at even places are digits, all at odd ones commas.
func wordsParse(s string) (int, int, api.Errno) {
	if s == "-" {
		return 0, 1, api.OK
	}
	var nodes []int
	for k := range len(s) {
		isDigit := s[k] >= '0' && s[k] <= '7' && (k < 2 || s[k] > s[k-2])
		if k%2 == 0 && !isDigit || k%2 == 1 && s[k] != ',' {
			return 0, k, api.ErrForm
		}
		if k%2 == 0 {
			nodes = append(nodes, int(s[k])-'0')
		}
	}
	if len(s)%2 == 0 {
		return 0, len(s), api.ErrForm
	}
	return wordsOf(nodes), len(s), api.OK
}

func wordsDigest(v int, round int) (uint32, api.Errno) {
	if !wordsRight(v) || round < 0 || round > manyRounds-1 {
		return 0, api.ErrArg
	}
	b := []byte{byte(v), 0, 0, 0, 0}
	binary.BigEndian.PutUint32(b[1:], uint32(round))
	sum := sha256.Sum256(b)
	return binary.BigEndian.Uint32(sum[:4]), api.OK
}

// ofIs checks Of, and that the list that was handed in is as it was.
func ofIs(t *testing.T, l []int, want int, wanted api.Errno) {
	t.Helper()
	was := slices.Clone(l)
	if v, e := Of(l...); v != want || e != wanted {
		t.Errorf("Of(%v) = %d, %d, want %d, %d", was, v, e, want, wanted)
	}
	if !slices.Equal(l, was) {
		t.Errorf("%v became %v", was, l)
	}
}

// nodeAsWords holds what is asked of a view and a node against the promise's words.
func nodeAsWords(t *testing.T, v int, i int) {
	t.Helper()
	if !wordsRight(v) || !wordsNode(i) {
		nodeRefused(t, v, i)
		return
	}
	nodes := wordsList(v)
	if got, want := Has(v, i), slices.Contains(nodes, i); got != want {
		t.Errorf("Has(%d, %d) = %t", v, i, got)
	}
	if got, e := With(v, i); got != wordsOf(append(slices.Clone(nodes), i)) || e != api.OK {
		t.Errorf("With(%d, %d) = %d, %d", v, i, got, e)
	}
	rest := slices.DeleteFunc(slices.Clone(nodes), func(n int) bool { return n == i })
	if got, e := Without(v, i); got != wordsOf(rest) || e != api.OK {
		t.Errorf("Without(%d, %d) = %d, %d", v, i, got, e)
	}
}

// nodeRefused checks that a view or a node that is not right is refused.
func nodeRefused(t *testing.T, v int, i int) {
	t.Helper()
	if Has(v, i) {
		t.Errorf("Has(%d, %d)", v, i)
	}
	if got, e := With(v, i); got != 0 || e != api.ErrArg {
		t.Errorf("With(%d, %d) = %d, %d", v, i, got, e)
	}
	if got, e := Without(v, i); got != 0 || e != api.ErrArg {
		t.Errorf("Without(%d, %d) = %d, %d", v, i, got, e)
	}
}

// viewAsWords holds what is asked of a view alone against the promise's words.
func viewAsWords(t *testing.T, v int) {
	t.Helper()
	var nodes []int
	text, wanted := "", api.ErrArg
	if wordsRight(v) {
		nodes, text, wanted = wordsList(v), wordsText(v), api.OK
	}
	if got := List(v); !slices.Equal(got, nodes) {
		t.Errorf("List(%d) = %v, want %v", v, got, nodes)
	}
	if got := Count(v); got != len(nodes) {
		t.Errorf("Count(%d) = %d, want %d", v, got, len(nodes))
	}
	if got, e := Text(v); got != text || e != wanted {
		t.Errorf("Text(%d) = %q, %d, want %q, %d", v, got, e, text, wanted)
	}
}

func withinAsWords(t *testing.T, a int, b int) {
	t.Helper()
	want := wordsRight(a) && wordsRight(b)
	if want {
		others := wordsList(b)
		for _, i := range wordsList(a) {
			want = want && slices.Contains(others, i)
		}
	}
	if got := Within(a, b); got != want {
		t.Errorf("Within(%d, %d) = %t", a, b, got)
	}
}

func digestAsWords(t *testing.T, v int, round int) {
	t.Helper()
	want, wanted := wordsDigest(v, round)
	if got, e := Digest(v, round); got != want || e != wanted {
		t.Errorf("Digest(%d, %d) = %x, %d, want %x, %d", v, round, got, e, want, wanted)
	}
}

func parseIs(t *testing.T, s string, want int, at int, wanted api.Errno) {
	t.Helper()
	if v, place, e := Parse(s); v != want || place != at || e != wanted {
		t.Errorf("Parse(%q) = %d, %d, %d, want %d, %d, %d", s, v, place, e, want, at, wanted)
	}
}

// parseAsWords holds Parse against the promise's words, and, of what it takes, Text undoes it, as a view has one text alone.
func parseAsWords(t *testing.T, s string) {
	t.Helper()
	want, at, wanted := wordsParse(s)
	parseIs(t, s, want, at, wanted)
	if wanted != api.OK {
		return
	}
	if text, e := Text(want); text != s || e != api.OK {
		t.Errorf("Text(%d) = %q, %d, want %q", want, text, e, s)
	}
}

// P26.1: the views of nodes, in any order, some of them more than once.
func TestOf(t *testing.T) {
	ofIs(t, nil, 0, api.OK)
	ofIs(t, []int{}, 0, api.OK)
	ofIs(t, []int{0}, 1, api.OK)
	ofIs(t, []int{7}, 128, api.OK)
	ofIs(t, []int{0, 2}, 5, api.OK)
	ofIs(t, []int{2, 0}, 5, api.OK)
	ofIs(t, []int{2, 2, 0, 2}, 5, api.OK)
	ofIs(t, []int{7, 6, 5, 4, 3, 2, 1, 0}, 255, api.OK)
	ofIs(t, []int{7, 7, 7, 7, 7, 7, 7, 7, 7, 7}, 128, api.OK)
	if v, e := Of(); v != 0 || e != api.OK {
		t.Errorf("Of() = %d, %d", v, e)
	}
	for v := range manyViews {
		nodes := wordsList(v)
		ofIs(t, nodes, v, api.OK)
		slices.Reverse(nodes)
		ofIs(t, nodes, v, api.OK)
		ofIs(t, append(nodes, nodes...), v, api.OK)
	}
}

// P26.1: a node that can't be is refused wherever it stands, and no view is told beside that.
func TestOfNoNode(t *testing.T) {
	for _, i := range notNodes {
		ofIs(t, []int{i}, 0, api.ErrArg)
		ofIs(t, []int{i, i}, 0, api.ErrArg)
		ofIs(t, []int{0, 2, i}, 0, api.ErrArg)
		ofIs(t, []int{i, 0, 2}, 0, api.ErrArg)
		ofIs(t, []int{7, i, 7}, 0, api.ErrArg)
	}
	ofIs(t, notNodes, 0, api.ErrArg)
}

// P1: a long list ends in good time.
func TestOfLong(t *testing.T) {
	long := make([]int, 1<<20)
	for k := range long {
		long[k] = k % 4
	}
	ofIs(t, long, 15, api.OK)
	long[len(long)-1] = 8
	ofIs(t, long, 0, api.ErrArg)
}

// P26.1: what the chapter's view holds, and what becomes of it.
func TestNodesOfOne(t *testing.T) {
	for i, has := range []bool{true, false, true, false, false, false, false, false} {
		if Has(5, i) != has {
			t.Errorf("Has(5, %d) = %t", i, !has)
		}
	}
	if v, e := With(5, 1); v != 7 || e != api.OK {
		t.Errorf("With: %d, %d", v, e)
	}
	if v, e := With(5, 2); v != 5 || e != api.OK {
		t.Errorf("With: %d, %d", v, e)
	}
	if v, e := With(0, 7); v != 128 || e != api.OK {
		t.Errorf("With: %d, %d", v, e)
	}
	if v, e := Without(5, 2); v != 1 || e != api.OK {
		t.Errorf("Without: %d, %d", v, e)
	}
	if v, e := Without(5, 1); v != 5 || e != api.OK {
		t.Errorf("Without: %d, %d", v, e)
	}
	if v, e := Without(128, 7); v != 0 || e != api.OK {
		t.Errorf("Without: %d, %d", v, e)
	}
	if l := List(5); !slices.Equal(l, []int{0, 2}) || Count(5) != 2 {
		t.Errorf("List: %v", l)
	}
	if l := List(255); !slices.Equal(l, []int{0, 1, 2, 3, 4, 5, 6, 7}) || Count(255) != 8 {
		t.Errorf("List: %v", l)
	}
	if l := List(0); len(l) != 0 || Count(0) != 0 {
		t.Errorf("List: %v", l)
	}
}

// P26.1: all views, all nodes, and numbers that are neither.
func TestNodesOfAll(t *testing.T) {
	for v := range manyViews {
		for i := range manyNodes {
			nodeAsWords(t, v, i)
		}
		for _, i := range notNodes {
			nodeRefused(t, v, i)
		}
		viewAsWords(t, v)
	}
}

// P26.1, P26.2: of a view that is not right nothing is told, whatever the node; P2: nor if both can't be.
func TestNoView(t *testing.T) {
	for _, v := range notViews {
		for i := range manyNodes {
			nodeRefused(t, v, i)
		}
		for _, i := range notNodes {
			nodeRefused(t, v, i)
		}
		viewAsWords(t, v)
		if l := List(v); len(l) != 0 || Count(v) != 0 {
			t.Errorf("List(%d) = %v, Count = %d", v, l, Count(v))
		}
		if s, e := Text(v); s != "" || e != api.ErrArg {
			t.Errorf("Text(%d) = %q, %d", v, s, e)
		}
	}
}

// P26.1: whether one has all of another: each of all, a part, itself, none; what is left out on one side.
func TestWithin(t *testing.T) {
	for _, c := range []struct {
		a, b int
		want bool
	}{
		{4, 5, true}, {5, 4, false}, {6, 5, false}, {5, 5, true}, {0, 0, true}, {0, 5, true}, {5, 0, false},
		{255, 255, true}, {255, 127, false}, {127, 255, true}, {128, 127, false}, {1, 254, false},
	} {
		if got := Within(c.a, c.b); got != c.want {
			t.Errorf("Within(%d, %d) = %t", c.a, c.b, got)
		}
	}
	for a := range manyViews {
		for b := range manyViews {
			withinAsWords(t, a, b)
		}
	}
}

// P26.1: one that is not right is within none, and none, not even nobody, is within it.
func TestWithinNoView(t *testing.T) {
	for _, w := range notViews {
		for v := range manyViews {
			if Within(v, w) || Within(w, v) {
				t.Errorf("%d, %d", v, w)
			}
		}
		for _, x := range notViews {
			if Within(w, x) {
				t.Errorf("Within(%d, %d)", w, x)
			}
		}
	}
}

// P26.2: the first words of digests that were worked out elsewhere.
func TestDigestOnes(t *testing.T) {
	for _, c := range []struct {
		v, round int
		want     uint32
	}{{5, 9, 0xcda3af1e}, {5, 10, 0x6670bab3}, {0, 0, 0x8855508a}, {255, manyRounds - 1, 0xb1ea68c8}} {
		if got, e := Digest(c.v, c.round); got != c.want || e != api.OK {
			t.Errorf("Digest(%d, %d) = %x, %d, want %x", c.v, c.round, got, e, c.want)
		}
	}
}

// P26.2: all views, in rounds whose bytes differ, at their ends and by chance; no two digests that are the same among them.
func TestDigestAll(t *testing.T) {
	chance := rand.New(rand.NewSource(26))
	seen := map[uint32]bool{}
	for v := range manyViews {
		for _, round := range []int{0, 1, 2, 255, 256, 257, 0x010203, 0x030201, manyRounds - 2, manyRounds - 1} {
			digestAsWords(t, v, round)
			word, _ := Digest(v, round)
			if seen[word] {
				t.Errorf("Digest(%d, %d) is that of another", v, round)
			}
			seen[word] = true
		}
		digestAsWords(t, v, chance.Intn(manyRounds))
	}
}

// P26.2: a view that is not right, a round that can't be, both.
func TestDigestRefused(t *testing.T) {
	for _, round := range notRounds {
		for v := range manyViews {
			digestAsWords(t, v, round)
		}
		for _, v := range notViews {
			digestAsWords(t, v, round)
		}
		if word, e := Digest(5, round); word != 0 || e != api.ErrArg {
			t.Errorf("Digest(5, %d) = %x, %d", round, word, e)
		}
	}
	for _, v := range notViews {
		for _, round := range []int{0, 9, manyRounds - 1} {
			if word, e := Digest(v, round); word != 0 || e != api.ErrArg {
				t.Errorf("Digest(%d, %d) = %x, %d", v, round, word, e)
			}
		}
	}
}

// P26.2: the chapter's example, and texts at the ends.
func TestText(t *testing.T) {
	for v, want := range map[int]string{0: "-", 1: "0", 128: "7", 5: "0,2", 129: "0,7", 10: "1,3", 255: "0,1,2,3,4,5,6,7", 254: "1,2,3,4,5,6,7"} {
		if s, e := Text(v); s != want || e != api.OK {
			t.Errorf("Text(%d) = %q, %d, want %q", v, s, e, want)
		}
		parseIs(t, want, v, len(want), api.OK)
	}
}

// P26.2: the place of what can't be: no digit of a node, one that does not rise, no comma, a - that is not alone, what is missing.
func TestParseRefused(t *testing.T) {
	for s, at := range map[string]int{
		"": 0, "0,": 2, "0,2,": 4, "7,": 2, "0,1,2,3,4,5,6,7,": 16,
		"8": 0, "9": 0, "/": 0, ":": 0, "a": 0, " 0": 0, "+0": 0, ",": 0, ",0": 0, "\x00": 0,
		"0,8": 2, "0,,2": 2, "0, 2": 2, "0,-": 2, "0,a": 2, "0,2,8": 4, "7,8": 2,
		"2,1": 2, "2,2": 2, "0,2,2": 4, "0,2,1": 4, "0,0": 2, "7,0": 2, "1,2,3,0": 6,
		"01": 1, "00": 1, "0;1": 1, "0 ": 1, "0-": 1, "0.2": 1, "0,22": 3, "0,2 ": 3, "0,2\n": 3, "0\x00": 1, "0,1,2,3,4,5,6,77": 15, "0,1,2,3,4,5,6,7 ": 15,
		"-0": 0, "--": 0, "-,": 0, "-,0": 0, "- ": 0, " -": 0, "0,2,-": 4,
	} {
		parseIs(t, s, 0, at, api.ErrForm)
		parseAsWords(t, s)
	}
}

// P26.2, P1: letters of more than one byte, and bytes that are no letters, are refused at the first of them, even where their low bits are those of a digit or of a comma.
func TestParseLetters(t *testing.T) {
	for _, odd := range []string{"\u0130", "\u012c", "\u0660", "\uff10", "\uff0c", "\U00010030", "\U0010FFFF", "\ufffd", "\x80", "\xff", "\xb0", "\xac", "\xe2\x82", "\xf0\x90\x80", "\u2212", "\xed\xa0\x80"} {
		for _, lead := range []string{"", "0", "0,", "0,2", "0,2,", "-"} {
			for _, end := range []string{"", "0", ",", "-", ",3"} {
				parseAsWords(t, lead+odd+end)
			}
		}
		parseIs(t, odd, 0, 0, api.ErrForm)
		parseIs(t, "0,"+odd, 0, 2, api.ErrForm)
		parseIs(t, "0"+odd, 0, 1, api.ErrForm)
		parseIs(t, "-"+odd, 0, 0, api.ErrForm)
	}
}

// P26.2: all texts of up to five of these letters.
func TestParseAll(t *testing.T) {
	longer := []string{""}
	for range 5 {
		texts := longer
		longer = nil
		for _, s := range texts {
			for _, letter := range "01267,-8 " {
				longer = append(longer, s+string(letter))
			}
		}
		for _, s := range longer {
			parseAsWords(t, s)
		}
	}
}

// P26.2: all texts of one byte, and of one more behind or ahead of the others.
func TestParseBytes(t *testing.T) {
	for b := range 256 {
		one := string([]byte{byte(b)})
		for _, s := range []string{one, "0" + one, "0," + one, one + ",7", "0,2" + one, "3," + one, "-" + one, one + "-", "0" + one + "2", "1," + one + ",3"} {
			parseAsWords(t, s)
		}
	}
}

// P26.2: right texts of which one byte is another, is gone, is there twice.
func TestParseNearlyRight(t *testing.T) {
	for v := range manyViews {
		s := wordsText(v)
		for k := range len(s) {
			parseAsWords(t, s[:k])
			parseAsWords(t, s[k:])
			parseAsWords(t, s[:k]+s[k+1:])
			parseAsWords(t, s[:k]+s[k:k+1]+s[k:])
			for _, other := range "0123456789,-+ " {
				parseAsWords(t, s[:k]+string(other)+s[k+1:])
				parseAsWords(t, s[:k]+string(other)+s[k:])
			}
		}
		parseAsWords(t, s+",")
		parseAsWords(t, s+s)
	}
}

// P1: long texts end in good time: none of more than 15 bytes can be right.
func TestParseLong(t *testing.T) {
	parseIs(t, strings.Repeat("0", 1<<20), 0, 1, api.ErrForm)
	parseIs(t, strings.Repeat("-", 1<<20), 0, 0, api.ErrForm)
	parseIs(t, strings.Repeat("0,", 1<<20), 0, 2, api.ErrForm)
	parseIs(t, "0,1,2,3,4,5,6,7"+strings.Repeat(",", 1<<20), 0, 16, api.ErrForm)
	parseIs(t, "0,1,2,3,4,5,6,7,"+strings.Repeat("8", 1<<20), 0, 16, api.ErrForm)
}

// P26.3: Parse undoes Text.
func TestParseUndoesText(t *testing.T) {
	for v := range manyViews {
		s, e := Text(v)
		if e != api.OK {
			t.Errorf("Text(%d): %d", v, e)
		}
		parseIs(t, s, v, len(s), api.OK)
	}
}

// P4: lists that are answered are new memory.
func TestNewMemory(t *testing.T) {
	for v := range manyViews {
		first, second := List(v), List(v)
		for k := range first {
			first[k] = 77
		}
		first = append(first, 78, 79)
		if len(first) != len(second)+2 || !slices.Equal(second, wordsList(v)) || !slices.Equal(List(v), second) {
			t.Errorf("List(%d): %v", v, second)
		}
	}
}

// P4: nothing of a list that is handed in is kept, nor what lies behind it looked at.
func TestKeepsOff(t *testing.T) {
	memory := []int{0, 2, 8, -1}
	was := slices.Clone(memory)
	ofIs(t, memory[:2], 5, api.OK)
	if !slices.Equal(memory, was) {
		t.Errorf("%v", memory)
	}
	clear(memory)
	if v, e := Of(2); v != 4 || e != api.OK {
		t.Errorf("Of(2) = %d, %d", v, e)
	}
}

// P5: what is answered hangs on nothing that was asked ahead of it.
func TestAnswersTheSame(t *testing.T) {
	for range 3 {
		ofIs(t, []int{0, 2}, 5, api.OK)
		ofIs(t, []int{0, 8}, 0, api.ErrArg)
		parseIs(t, "0,2", 5, 3, api.OK)
		parseIs(t, "0,1,8", 0, 4, api.ErrForm)
		parseIs(t, "-", 0, 1, api.OK)
		digestAsWords(t, 5, 9)
		digestAsWords(t, 5, -9)
		viewAsWords(t, 5)
		viewAsWords(t, 261)
	}
}

// P26.1, P26.2, P26.3: any numbers and texts that a fuzzer wants.
func FuzzAll(f *testing.F) {
	f.Add(5, 255, 2, 9, "0,2")
	f.Add(256, -1, 8, manyRounds, "-0")
	f.Add(math.MinInt, math.MaxInt, math.MinInt, math.MaxInt, "0,\u0132")
	f.Fuzz(func(t *testing.T, a int, b int, i int, round int, s string) {
		checkAll(t, a, b, i, round)
		checkAll(t, a&255, b, i, round)
		checkAll(t, a&255, b&511, i&15, round&(2*manyRounds-1))
		parseAsWords(t, s)
		parseAsWords(t, wordsText(a&255)+s)
		parseAsWords(t, wordsText(a&255)+","+s)
	})
}

func checkAll(t *testing.T, a int, b int, i int, round int) {
	t.Helper()
	viewAsWords(t, a)
	withinAsWords(t, a, b)
	nodeAsWords(t, a, i)
	digestAsWords(t, a, round)
	want, wanted := 0, api.ErrArg
	if wordsNode(i) && wordsNode(b) {
		want, wanted = wordsOf([]int{b, i}), api.OK
	}
	ofIs(t, []int{b, i}, want, wanted)
}
