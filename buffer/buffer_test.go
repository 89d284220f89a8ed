package buffer

import (
	"bytes"
	"fmt"
	"math"
	"math/rand"
	"slices"
	"testing"

	"carillon/api"
)

// The limits as the document writes them.
const (
	waiting64 = 64
	frame96   = 96
	keys256   = 256
	epochs    = 65535
)

// item is bytes that wait, by the chapter's words.
type item struct {
	epoch int
	index int
	text  string
}

// words is a buffer by the chapter's words: a list, nothing counted ahead.
type words struct {
	most int
	lost int
	list []item
}

func (w *words) count(epoch int, index int) int {
	n := 0
	for _, x := range w.list {
		if x.epoch == epoch && x.index == index {
			n++
		}
	}
	return n
}

// greatest tells how many the cell with the most of them has.
func (w *words) greatest() int {
	n := 0
	for _, x := range w.list {
		n = max(n, w.count(x.epoch, x.index))
	}
	return n
}

// lose takes the newest one out of the first cell that has as many as any.
func (w *words) lose() {
	n := w.greatest()
	for _, first := range w.list {
		if w.count(first.epoch, first.index) != n {
			continue
		}
		newest := 0
		for k, x := range w.list {
			if x.epoch == first.epoch && x.index == first.index {
				newest = k
			}
		}
		w.list = append(append([]item{}, w.list[:newest]...), w.list[newest+1:]...)
		return
	}
}

func (w *words) put(epoch int, index int, x []byte) api.Errno {
	if epoch < 0 || epoch > 65535 || index < 1 || index > 256 || len(x) > 96 {
		return api.ErrArg
	}
	for _, y := range w.list {
		if y.text == string(x) {
			return api.ErrForm
		}
	}
	if len(w.list) == w.most {
		w.lost++
		if w.count(epoch, index) == w.greatest() {
			return api.ErrFull
		}
		w.lose()
	}
	w.list = append(w.list, item{epoch, index, string(x)})
	return api.OK
}

// split tells the texts of those that leave, and keeps the others.
func (w *words) split(leaves func(item) bool) []string {
	var out []string
	var stay []item
	for _, x := range w.list {
		if leaves(x) {
			out = append(out, x.text)
		} else {
			stay = append(stay, x)
		}
	}
	w.list = stay
	return out
}

func (w *words) take(epoch int, index int) []string {
	return w.split(func(x item) bool { return x.epoch == epoch && x.index == index })
}

func (w *words) drop(epoch int, index int) int {
	return len(w.split(func(x item) bool {
		if x.epoch == epoch {
			return x.index <= index
		}
		return x.epoch < epoch
	}))
}

// made is a buffer that New makes.
func made(t testing.TB, most int) *Buffer {
	t.Helper()
	b, e := New(most)
	if b == nil || e != api.OK {
		t.Fatalf("New(%d) = %v, %v", most, b, e)
	}
	tells(t, b, 0, 0)
	return b
}

// tells checks how many wait and how many were lost.
func tells(t testing.TB, b *Buffer, length int, lost int) {
	t.Helper()
	if b.Len() != length || b.Lost() != lost {
		t.Fatalf("Len %d, Lost %d, want %d, %d", b.Len(), b.Lost(), length, lost)
	}
}

// puts checks what Put answers to texts, one behind the other.
func puts(t testing.TB, b *Buffer, want api.Errno, epoch int, index int, texts ...string) {
	t.Helper()
	for _, x := range texts {
		if e := b.Put(epoch, index, []byte(x)); e != want {
			t.Fatalf("Put(%d, %d, %q): %v, want %v", epoch, index, x, e, want)
		}
	}
}

// has checks how many wait of a cell.
func has(t testing.TB, b *Buffer, epoch int, index int, want int) {
	t.Helper()
	if n := b.Count(epoch, index); n != want {
		t.Fatalf("Count(%d, %d) = %d, want %d", epoch, index, n, want)
	}
}

// texts tells lists of bytes as texts.
func texts(lists [][]byte) []string {
	var out []string
	for _, x := range lists {
		out = append(out, string(x))
	}
	return out
}

// takes checks what Take answers, that it waits no more, and that nothing else leaves.
func takes(t testing.TB, b *Buffer, epoch int, index int, want ...string) {
	t.Helper()
	length, lost := b.Len(), b.Lost()
	has(t, b, epoch, index, len(want))
	if got := texts(b.Take(epoch, index)); !slices.Equal(got, want) {
		t.Fatalf("Take(%d, %d) = %q, want %q", epoch, index, got, want)
	}
	has(t, b, epoch, index, 0)
	tells(t, b, length-len(want), lost)
}

// drops checks how many Drop tells, and that so many leave.
func drops(t testing.TB, b *Buffer, epoch int, index int, want int) {
	t.Helper()
	length, lost := b.Len(), b.Lost()
	if n := b.Drop(epoch, index); n != want {
		t.Fatalf("Drop(%d, %d) = %d, want %d", epoch, index, n, want)
	}
	tells(t, b, length-want, lost)
}

// Kinds of acts of a pair.
const (
	put = iota
	take
	drop
	acts
)

// pair is a buffer, and the same one by the chapter's words.
type pair struct {
	b *Buffer
	w *words
}

func newPair(t testing.TB, most int) pair {
	t.Helper()
	return pair{made(t, most), &words{most: most}}
}

// does lets both do an act, and holds what the buffer answers and tells against the words.
func (p pair) does(t testing.TB, kind int, epoch int, index int, x []byte) api.Errno {
	t.Helper()
	e := api.OK
	switch kind {
	case put:
		before := bytes.Clone(x)
		e = p.b.Put(epoch, index, x)
		if want := p.w.put(epoch, index, x); e != want {
			t.Fatalf("Put(%d, %d, %q) with %v: %v, want %v", epoch, index, x, p.w.list, e, want)
		}
		if !bytes.Equal(x, before) {
			t.Fatalf("Put has changed %q to %q", before, x)
		}
	case take:
		want := p.w.take(epoch, index)
		if got := texts(p.b.Take(epoch, index)); !slices.Equal(got, want) {
			t.Fatalf("Take(%d, %d) = %q, want %q", epoch, index, got, want)
		}
	case drop:
		want := p.w.drop(epoch, index)
		if got := p.b.Drop(epoch, index); got != want {
			t.Fatalf("Drop(%d, %d) = %d, want %d", epoch, index, got, want)
		}
	}
	p.holds(t, epoch, index)
	return e
}

// holds checks what the buffer tells, of a cell and of all that wait, against the words.
func (p pair) holds(t testing.TB, epoch int, index int) {
	t.Helper()
	tells(t, p.b, len(p.w.list), p.w.lost)
	has(t, p.b, epoch, index, p.w.count(epoch, index))
	for _, x := range p.w.list {
		has(t, p.b, x.epoch, x.index, p.w.count(x.epoch, x.index))
	}
}

// ends takes all cells out, and holds them against the words.
func (p pair) ends(t testing.TB) {
	t.Helper()
	for len(p.w.list) > 0 {
		x := p.w.list[len(p.w.list)/2]
		p.does(t, take, x.epoch, x.index, nil)
	}
	tells(t, p.b, 0, p.w.lost)
}

// P20.1: the chapter's example.
func TestExample(t *testing.T) {
	b := made(t, 2)
	puts(t, b, api.OK, 1, 1, "one", "two")
	puts(t, b, api.OK, 1, 2, "three")
	tells(t, b, 2, 1)
	takes(t, b, 1, 1, "one")
	takes(t, b, 1, 2, "three")
}

// P20.1: sizes at their ends.
func TestNew(t *testing.T) {
	for most := 1; most <= waiting64; most++ {
		b := made(t, most)
		for k := range most {
			puts(t, b, api.OK, 7, 1+k, string(rune('0'+k)))
			tells(t, b, k+1, 0)
		}
		puts(t, b, api.OK, 8, 1, "more")
		tells(t, b, most, 1)
	}
	for _, most := range []int{0, -1, waiting64 + 1, -waiting64, 96, 256, 1<<32 + 1, math.MinInt, math.MinInt + 1, math.MaxInt, math.MinInt32, math.MaxInt32} {
		if b, e := New(most); b != nil || e != api.ErrArg {
			t.Errorf("New(%d) = %v, %v", most, b, e)
		}
	}
}

// noEpochs and noIndexes are numbers that no cell has.
var (
	noEpochs  = []int{-1, -2, epochs + 1, epochs + 2, -epochs, 1 << 32, 1<<32 + 1, math.MinInt, math.MinInt + 1, math.MaxInt, math.MaxInt - 1, math.MinInt32, math.MaxInt32}
	noIndexes = []int{0, -1, -2, keys256 + 1, keys256 + 2, -keys256, 1 << 16, 1 << 32, 1<<32 + 1, math.MinInt, math.MaxInt, math.MinInt32, math.MaxInt32}
)

// P20.1: epochs, indexes and lengths at their ends wait.
func TestPutEnds(t *testing.T) {
	for _, epoch := range []int{0, 1, 255, 256, 32767, 32768, epochs - 1, epochs} {
		for _, index := range []int{1, 2, 127, 128, 255, keys256} {
			p := newPair(t, 4)
			for _, n := range []int{0, 1, frame96 - 1, frame96} {
				if e := p.does(t, put, epoch, index, bytes.Repeat([]byte{9}, n)); e != api.OK {
					t.Fatalf("Put(%d, %d, %d bytes): %v", epoch, index, n, e)
				}
			}
			has(t, p.b, epoch, index, 4)
			p.ends(t)
		}
	}
}

// P20.1, P6: beyond the ends nothing waits, is lost or leaves, in a buffer with room and in a full one.
func TestPutBeyond(t *testing.T) {
	for _, most := range []int{2, 3, waiting64} {
		p := newPair(t, most)
		p.does(t, put, 0, 1, []byte("a"))
		p.does(t, put, epochs, keys256, []byte("b"))
		refused := func(epoch int, index int, x []byte) {
			t.Helper()
			if e := p.does(t, put, epoch, index, x); e != api.ErrArg {
				t.Fatalf("Put(%d, %d, %d bytes): %v", epoch, index, len(x), e)
			}
		}
		for _, epoch := range noEpochs {
			for _, index := range []int{1, 2, keys256} {
				refused(epoch, index, []byte("c"))
			}
		}
		for _, index := range noIndexes {
			for _, epoch := range []int{0, 1, epochs} {
				refused(epoch, index, []byte("c"))
			}
		}
		for _, n := range []int{frame96 + 1, frame96 + 2, 2 * frame96, 256, 256 + frame96, 1 << 16} {
			refused(0, 1, make([]byte, n))
			refused(epochs, keys256, make([]byte, n))
			refused(-1, 0, make([]byte, n))
		}
		tells(t, p.b, 2, 0)
		p.ends(t)
	}
}

// P2: what can't be is told ahead of the same bytes, the same bytes ahead of a full buffer; neither is counted as lost.
func TestErrorsInOrder(t *testing.T) {
	b := made(t, 2)
	puts(t, b, api.OK, 3, 4, "a", "b")
	puts(t, b, api.ErrArg, -1, 4, "a", "c")
	puts(t, b, api.ErrArg, 3, 257, "b", "c")
	puts(t, b, api.ErrForm, 3, 4, "a", "b")
	puts(t, b, api.ErrForm, 3, 5, "a", "b")
	tells(t, b, 2, 0)
	puts(t, b, api.ErrFull, 3, 4, "c")
	tells(t, b, 2, 1)
	takes(t, b, 3, 4, "a", "b")
}

// P20.1: the same bytes wait once, in whichever cell; those that are much alike are others.
func TestSameBytes(t *testing.T) {
	b := made(t, waiting64)
	all := []string{"\x00\x00", "\x00", "aa", "", "a", "ab", "b", "ba", string(make([]byte, 96)), string(make([]byte, 95)), string(make([]byte, 95)) + "\x01", "\x01" + string(make([]byte, 95))}
	for k, x := range all {
		puts(t, b, api.OK, k%3, 1+k%2, x)
		for _, y := range all[:k+1] {
			puts(t, b, api.ErrForm, k%3, 1+k%2, y)
			puts(t, b, api.ErrForm, 9, 9, y)
			puts(t, b, api.ErrForm, (k+1)%3, 1+k%2, y)
			puts(t, b, api.ErrForm, k%3, 2-k%2, y)
		}
		tells(t, b, k+1, 0)
	}
	has(t, b, 9, 9, 0)
}

// P3: nil and empty bytes are the same ones.
func TestNilBytes(t *testing.T) {
	for _, first := range [][]byte{nil, {}} {
		b := made(t, 3)
		if e := b.Put(1, 1, first); e != api.OK {
			t.Fatalf("Put of none: %v", e)
		}
		for _, again := range [][]byte{nil, {}, make([]byte, 0, 5)} {
			if e := b.Put(2, 1, again); e != api.ErrForm {
				t.Fatalf("Put of none again: %v", e)
			}
		}
		tells(t, b, 1, 0)
		takes(t, b, 1, 1, "")
	}
}

// P20.1: bytes that wait no more may come again: taken, dropped, thrown out, or lost as they came.
func TestSameAgain(t *testing.T) {
	b := made(t, 3)
	puts(t, b, api.OK, 1, 1, "a", "b", "c")
	takes(t, b, 1, 1, "a", "b", "c")
	puts(t, b, api.OK, 1, 2, "c", "b")
	drops(t, b, 1, 2, 2)
	puts(t, b, api.OK, 1, 1, "b", "c", "a")
	puts(t, b, api.OK, 2, 1, "d")
	tells(t, b, 3, 1)
	puts(t, b, api.OK, 2, 2, "a")
	tells(t, b, 3, 2)
	takes(t, b, 1, 1, "b")
	puts(t, b, api.OK, 2, 1, "c")
	puts(t, b, api.ErrFull, 2, 1, "e", "e", "e")
	tells(t, b, 3, 5)
	takes(t, b, 2, 2, "a")
	puts(t, b, api.OK, 2, 1, "e")
	takes(t, b, 2, 1, "d", "c", "e")
}

// P20.1: the one cell with the most loses its newest, wherever it stands among the others, and each time one more.
func TestFullOneHasMost(t *testing.T) {
	for place := range 4 {
		b := made(t, 6)
		for k := range 4 {
			puts(t, b, api.OK, k, 5, fmt.Sprint("first ", k))
		}
		puts(t, b, api.OK, place, 5, "second", "third")
		puts(t, b, api.OK, 9, 1, "x")
		tells(t, b, 6, 1)
		has(t, b, place, 5, 2)
		puts(t, b, api.OK, 9, 2, "y")
		tells(t, b, 6, 2)
		for k := range 4 {
			takes(t, b, k, 5, fmt.Sprint("first ", k))
		}
		takes(t, b, 9, 1, "x")
		takes(t, b, 9, 2, "y")
	}
}

// P20.1: the newest of the cell is lost, though newer ones of other cells wait behind it, and older ones among them.
func TestFullWhichIsLost(t *testing.T) {
	b := made(t, 6)
	puts(t, b, api.OK, 2, 2, "m1")
	puts(t, b, api.OK, 1, 1, "a1")
	puts(t, b, api.OK, 2, 2, "m2")
	puts(t, b, api.OK, 3, 3, "c1")
	puts(t, b, api.OK, 2, 2, "m3")
	puts(t, b, api.OK, 1, 1, "a2")
	puts(t, b, api.OK, 3, 3, "c2")
	tells(t, b, 6, 1)
	puts(t, b, api.OK, 4, 4, "d1")
	tells(t, b, 6, 2)
	takes(t, b, 1, 1, "a1", "a2")
	takes(t, b, 3, 3, "c1", "c2")
	takes(t, b, 2, 2, "m1")
	takes(t, b, 4, 4, "d1")
}

// P20.1: of cells with as many the one whose first came first loses: not the least one, nor the one that was filled first.
func TestFullAsMany(t *testing.T) {
	for _, cells := range [][3]cell{{{5, 5}, {1, 1}, {3, 3}}, {{1, 9}, {1, 5}, {1, 7}}, {{1, 1}, {2, 1}, {3, 1}}, {{0, 256}, {65535, 1}, {0, 1}}} {
		b := made(t, 6)
		for k, c := range cells {
			puts(t, b, api.OK, c[0], c[1], fmt.Sprint("first ", k))
		}
		for k := range cells {
			c := cells[2-k]
			puts(t, b, api.OK, c[0], c[1], fmt.Sprint("second ", 2-k))
		}
		for k, lost := range cells {
			puts(t, b, api.OK, 9, 10+k, fmt.Sprint("new ", k))
			tells(t, b, 6, 1+k)
			has(t, b, lost[0], lost[1], 1)
			for _, c := range cells[k+1:] {
				has(t, b, c[0], c[1], 2)
			}
		}
		puts(t, b, api.OK, 9, 20, "fourth")
		has(t, b, cells[0][0], cells[0][1], 0)
		for k, c := range cells[1:] {
			takes(t, b, c[0], c[1], fmt.Sprint("first ", 1+k))
		}
	}
}

// P20.1: the first one of those that wait counts: a cell that was taken, and is filled again, came later.
func TestFullFirstAgain(t *testing.T) {
	for _, leaves := range []func(*Buffer){
		func(b *Buffer) { b.Take(1, 1) },
		func(b *Buffer) { b.Drop(1, 1) },
	} {
		b := made(t, 4)
		puts(t, b, api.OK, 1, 1, "a1")
		puts(t, b, api.OK, 2, 1, "b1", "b2")
		leaves(b)
		puts(t, b, api.OK, 1, 1, "a2", "a3")
		puts(t, b, api.OK, 3, 1, "c")
		takes(t, b, 2, 1, "b1")
		takes(t, b, 1, 1, "a2", "a3")
	}
	b := made(t, 2)
	puts(t, b, api.OK, 1, 1, "a")
	puts(t, b, api.OK, 2, 1, "b")
	puts(t, b, api.OK, 3, 1, "c")
	puts(t, b, api.OK, 1, 1, "d")
	takes(t, b, 3, 1, "c")
	takes(t, b, 1, 1, "d")
}

// P20.1: if its own cell has as many as any, it is lost itself, whether that cell alone has so many, came first, or came later.
func TestFullOwnCell(t *testing.T) {
	b := made(t, 3)
	puts(t, b, api.OK, 1, 1, "a", "b")
	puts(t, b, api.OK, 1, 2, "c")
	puts(t, b, api.ErrFull, 1, 1, "x", "y")
	tells(t, b, 3, 2)
	takes(t, b, 1, 1, "a", "b")
	takes(t, b, 1, 2, "c")

	b = made(t, 4)
	puts(t, b, api.OK, 1, 1, "a", "b")
	puts(t, b, api.OK, 1, 2, "c", "d")
	puts(t, b, api.ErrFull, 1, 1, "x")
	puts(t, b, api.ErrFull, 1, 2, "x", "y")
	tells(t, b, 4, 3)
	puts(t, b, api.OK, 2, 2, "z")
	puts(t, b, api.ErrFull, 1, 2, "x")
	puts(t, b, api.OK, 2, 2, "w")
	has(t, b, 1, 2, 1)
	tells(t, b, 4, 6)
	puts(t, b, api.ErrFull, 2, 2, "v")
	takes(t, b, 1, 1, "a")
	takes(t, b, 1, 2, "c")
	takes(t, b, 2, 2, "z", "w")
}

// P20.1: a cell with one less than the most takes the place of one of that cell, and has as many then.
func TestFullOneLess(t *testing.T) {
	b := made(t, 5)
	puts(t, b, api.OK, 1, 1, "a", "b", "c")
	puts(t, b, api.OK, 1, 2, "d", "e")
	puts(t, b, api.OK, 1, 2, "f")
	tells(t, b, 5, 1)
	has(t, b, 1, 1, 2)
	puts(t, b, api.ErrFull, 1, 2, "g")
	puts(t, b, api.OK, 1, 1, "g")
	tells(t, b, 5, 3)
	takes(t, b, 1, 1, "a", "b", "g")
	takes(t, b, 1, 2, "d", "e")
}

// P20.1: in a buffer of one another cell takes its place, its own is refused.
func TestFullOfOne(t *testing.T) {
	b := made(t, 1)
	puts(t, b, api.OK, 0, 1, "0")
	for k := range 300 {
		puts(t, b, api.ErrFull, k, 1, "own")
		puts(t, b, api.ErrForm, k, 2, fmt.Sprint(k))
		puts(t, b, api.OK, k+1, 1, fmt.Sprint(k+1))
		tells(t, b, 1, 2*(k+1))
		has(t, b, k, 1, 0)
		if len(b.counts) != 1 {
			t.Fatalf("%d cells are counted", len(b.counts))
		}
	}
	takes(t, b, 300, 1, "300")
}

// P20.1: a full buffer, the same bytes: nobody is thrown out for them, nor are they counted.
func TestFullSameBytes(t *testing.T) {
	b := made(t, 3)
	puts(t, b, api.OK, 1, 1, "a", "b")
	puts(t, b, api.OK, 1, 2, "c")
	for _, index := range []int{1, 2, 3} {
		puts(t, b, api.ErrForm, 1, index, "a", "b", "c")
	}
	tells(t, b, 3, 0)
	takes(t, b, 1, 2, "c")
	takes(t, b, 1, 1, "a", "b")
}

// P20.2: a cell with none, one and several; a second time there are none.
func TestTake(t *testing.T) {
	b := made(t, waiting64)
	takes(t, b, 0, 1)
	for k := range 20 {
		puts(t, b, api.OK, 1, 1, fmt.Sprint("several ", k))
		if k == 7 {
			puts(t, b, api.OK, 1, 2, "one")
		}
		puts(t, b, api.OK, 2, 1, fmt.Sprint("others ", k))
	}
	takes(t, b, 0, 1)
	takes(t, b, 1, 3)
	takes(t, b, 3, 1)
	takes(t, b, 1, 2, "one")
	takes(t, b, 1, 2)
	var want, others []string
	for k := range 20 {
		want = append(want, fmt.Sprint("several ", k))
		others = append(others, fmt.Sprint("others ", k))
	}
	takes(t, b, 1, 1, want...)
	takes(t, b, 1, 1)
	takes(t, b, 2, 1, others...)
	takes(t, b, 2, 1)
	tells(t, b, 0, 0)
}

// P20.2: cells are apart by epoch and index, be their numbers the other way round or have they the same sum.
func TestCellsApart(t *testing.T) {
	p := newPair(t, waiting64)
	cells := []cell{{1, 2}, {2, 1}, {3, 3}, {1, 256}, {256, 1}, {0, 1}, {0, 256}, {65535, 1}, {65535, 256}, {255, 255}}
	for k, c := range cells {
		for n := range k%4 + 1 {
			p.does(t, put, c[0], c[1], fmt.Append(nil, k, n))
		}
	}
	for k, c := range cells {
		has(t, p.b, c[0], c[1], k%4+1)
	}
	for _, c := range cells {
		p.does(t, take, c[0], c[1], nil)
	}
	tells(t, p.b, 0, 0)
}

// P20.2: all of one cell and full at that, all of it taken.
func TestTakeAll(t *testing.T) {
	p := newPair(t, waiting64)
	for k := range 100 {
		p.does(t, put, 5, 6, bytes.Repeat([]byte{byte(k)}, 1+k%96))
	}
	tells(t, p.b, 64, 36)
	p.does(t, take, 5, 6, nil)
	tells(t, p.b, 0, 36)
	for k := range 64 {
		p.does(t, put, 5, 6, []byte{byte(k)})
	}
	tells(t, p.b, 64, 36)
}

// square fills a buffer with two of each cell of epochs 1 to 4 and indexes 1 to 4, in an order that is not theirs.
func square(t testing.TB) pair {
	t.Helper()
	p := newPair(t, waiting64)
	for k := range 32 {
		n := k * 5 % 16
		p.does(t, put, 1+n/4, 1+n%4, []byte{byte(k)})
	}
	tells(t, p.b, 32, 0)
	return p
}

// P20.2: Drop below, at and above the cells that wait.
func TestDrop(t *testing.T) {
	for epoch := 0; epoch <= 5; epoch++ {
		for index := -1; index <= 6; index++ {
			p := square(t)
			want := 0
			for e := 1; e <= 4; e++ {
				for i := 1; i <= 4; i++ {
					if e < epoch || e == epoch && i <= index {
						want += 2
					}
				}
			}
			drops(t, p.b, epoch, index, want)
			if n := p.w.drop(epoch, index); n != want {
				t.Fatalf("Drop(%d, %d) by the words: %d, want %d", epoch, index, n, want)
			}
			p.holds(t, epoch, index)
			drops(t, p.b, epoch, index, 0)
			p.ends(t)
		}
	}
}

// P20.2: Drop of an empty buffer, and of one that was emptied, tells 0; room is made.
func TestDropMakesRoom(t *testing.T) {
	b := made(t, 2)
	drops(t, b, 5, 5, 0)
	puts(t, b, api.OK, 1, 1, "a", "b")
	puts(t, b, api.ErrFull, 1, 1, "c")
	drops(t, b, 1, 1, 2)
	drops(t, b, 1, 1, 0)
	puts(t, b, api.OK, 1, 1, "c", "d")
	tells(t, b, 2, 1)
	takes(t, b, 1, 1, "c", "d")
}

// P20.2, P1: Take, Drop and Count with the greatest and the least numbers, and with cells that can't be.
func TestNumbersAtEnds(t *testing.T) {
	for _, epoch := range append([]int{0, 1, 4, epochs}, noEpochs...) {
		for _, index := range append([]int{1, 4, keys256}, noIndexes...) {
			p := square(t)
			p.does(t, put, 0, 1, []byte("least"))
			p.does(t, put, epochs, keys256, []byte("greatest"))
			has(t, p.b, epoch, index, p.w.count(epoch, index))
			p.does(t, take, epoch, index, nil)
			p.does(t, drop, epoch, index, nil)
			p.ends(t)
		}
	}
	p := square(t)
	drops(t, p.b, math.MinInt, math.MaxInt, 0)
	drops(t, p.b, -1, math.MaxInt, 0)
	drops(t, p.b, 0, math.MaxInt, 0)
	drops(t, p.b, 2, math.MinInt, 8)
	drops(t, p.b, 2, math.MaxInt, 8)
	drops(t, p.b, math.MaxInt, math.MinInt, 16)
}

// P20.2: to be asked changes nothing, and cells that are asked for are not kept.
func TestAsking(t *testing.T) {
	b := made(t, 4)
	puts(t, b, api.OK, 1, 1, "a", "b")
	for k := range 1000 {
		has(t, b, k, 2, 0)
		takes(t, b, k, 3)
		tells(t, b, 2, 0)
	}
	if len(b.counts) != 1 {
		t.Errorf("%d cells are counted", len(b.counts))
	}
	takes(t, b, 1, 1, "a", "b")
}

// P20.2: what is kept does not grow, however many cells have come and gone.
func TestKeptIsFew(t *testing.T) {
	b := made(t, 4)
	for k := range 20000 {
		b.Put(k, 1+k%256, fmt.Append(nil, k))
		switch k % 3 {
		case 0:
			b.Take(k, 1+k%256)
		case 1:
			b.Drop(k-2, 256)
		}
		if len(b.counts) > b.Len() || len(b.waits) > 4 || cap(b.waits) > 16 {
			t.Fatalf("%d cells, %d wait, room for %d", len(b.counts), len(b.waits), cap(b.waits))
		}
	}
	b.Drop(epochs+1, 0)
	if len(b.counts) != 0 || b.Len() != 0 {
		t.Errorf("%d cells are counted, %d wait", len(b.counts), b.Len())
	}
}

// P20.4: who floods one cell throws out nothing of those that have less, ahead of the flood or behind it.
func TestFlood(t *testing.T) {
	for most := 2; most <= waiting64; most++ {
		for each := 1; each <= 3; each++ {
			// As many others as leave the flooded cell one more than each of them has.
			others := (most - each - 1) / each
			if others < 1 {
				continue
			}
			b := made(t, most)
			flood := 0
			pour := func(n int) {
				for range n {
					b.Put(7, 7, fmt.Append(nil, "flood ", flood))
					flood++
				}
			}
			for k := range others {
				for n := range each {
					pour(most)
					puts(t, b, api.OK, k%3, 8+k, fmt.Sprint("other ", k, " ", n))
				}
			}
			pour(3 * most)
			tells(t, b, most, flood+others*each-most)
			has(t, b, 7, 7, most-others*each)
			for k := range others {
				var want []string
				for n := range each {
					want = append(want, fmt.Sprint("other ", k, " ", n))
				}
				takes(t, b, k%3, 8+k, want...)
			}
		}
	}
}

// P20.4: whatever is put in a cell, in no other one is there less behind it, but in one that had more.
func TestNoneIsThrownOutByMore(t *testing.T) {
	r := rand.New(rand.NewSource(20))
	for turn := range 400 {
		most := 1 + turn%16
		p := newPair(t, most)
		for k := range 200 {
			before := append([]item{}, p.w.list...)
			own := cell{r.Intn(3), 1 + r.Intn(2)}
			if r.Intn(3) > 0 {
				own = cell{1, 1}
			}
			had := p.b.Count(own[0], own[1])
			p.does(t, put, own[0], own[1], fmt.Append(nil, k))
			for _, x := range before {
				old := 0
				for _, y := range before {
					if y.epoch == x.epoch && y.index == x.index {
						old++
					}
				}
				if p.b.Count(x.epoch, x.index) < old && old <= had {
					t.Fatalf("cell %d, %d had %d, and lost by one that had %d", x.epoch, x.index, old, had)
				}
			}
		}
		p.ends(t)
	}
}

// P4: what is handed in may be changed afterwards, and so may what is told.
func TestListsApart(t *testing.T) {
	b := made(t, 6)
	x := make([]byte, 3, 20)
	for k := range 4 {
		x[0] = byte('a' + k)
		if e := b.Put(1, 1, x); e != api.OK {
			t.Fatalf("Put: %v", e)
		}
	}
	clear(x[:20])
	puts(t, b, api.ErrForm, 2, 2, "a\x00\x00", "b\x00\x00", "c\x00\x00", "d\x00\x00")
	puts(t, b, api.OK, 2, 2, "\x00\x00\x00")
	got := b.Take(1, 1)
	if !slices.Equal(texts(got), []string{"a\x00\x00", "b\x00\x00", "c\x00\x00", "d\x00\x00"}) {
		t.Fatalf("Take = %q", got)
	}
	// Each is filled up to its capacity: no other list may be seen to change.
	for k, list := range got {
		list = list[:cap(list)]
		for n := range list {
			list[n] = byte(100 + k)
		}
		for j, other := range got {
			if j > k && other[0] != byte('a'+j) {
				t.Fatalf("list %d changes list %d", k, j)
			}
		}
	}
	for k := range 4 {
		got = append(got, []byte{byte(k)})
	}
	puts(t, b, api.OK, 1, 1, "e", "f")
	got[0] = nil
	takes(t, b, 2, 2, "\x00\x00\x00")
	takes(t, b, 1, 1, "e", "f")
}

// P20.3, P1: a nil buffer, and one that no call made; whatever it is asked, it stays so.
func TestNotMade(t *testing.T) {
	var zero Buffer
	refused, _ := New(65)
	for _, b := range []*Buffer{nil, &zero, new(Buffer), refused} {
		for _, epoch := range append([]int{0, 1, epochs}, noEpochs...) {
			for _, index := range append([]int{1, 2, keys256}, noIndexes...) {
				for _, x := range [][]byte{nil, {}, []byte("a"), make([]byte, frame96), make([]byte, frame96+1)} {
					if e := b.Put(epoch, index, x); e != api.ErrZero {
						t.Fatalf("Put(%d, %d, %d bytes): %v", epoch, index, len(x), e)
					}
				}
				takes(t, b, epoch, index)
				drops(t, b, epoch, index, 0)
				tells(t, b, 0, 0)
			}
		}
	}
}

// P5: two buffers with the same acts tell the same, and neither touches the other.
func TestApart(t *testing.T) {
	one, other := newPair(t, 5), newPair(t, 5)
	for k := range 200 {
		one.does(t, put, k%4, 1+k%3, fmt.Append(nil, k%17))
		tells(t, other.b, 0, 0)
	}
	for k := range 200 {
		other.does(t, put, k%4, 1+k%3, fmt.Append(nil, k%17))
	}
	if one.b.Lost() != other.b.Lost() || !slices.Equal(one.w.list, other.w.list) {
		t.Errorf("lost %d, %d; %v, %v", one.b.Lost(), other.b.Lost(), one.w.list, other.w.list)
	}
	one.ends(t)
	other.ends(t)
}

// P20.1, P20.2: all short rows of acts over two cells of buffers of 1 to 4.
func TestAllShort(t *testing.T) {
	const kinds, long = 5, 6
	rows := 1
	for range long {
		rows *= kinds
	}
	for most := 1; most <= 4; most++ {
		for row := range rows {
			p := newPair(t, most)
			rest := row
			for k := range long {
				switch n := rest % kinds; n {
				case 0, 1:
					p.does(t, put, 1, 1+n, []byte{byte(k)})
				case 2:
					p.does(t, put, 2, 1, []byte{byte(k)})
				case 3:
					p.does(t, take, 1, 1, nil)
				case 4:
					p.does(t, drop, 1, 2, nil)
				}
				rest /= kinds
			}
			if row%7 == 0 {
				p.ends(t)
			}
		}
	}
}

// P20.1, P20.2: buffers of all sizes, Put, Take and Drop in turn over few and many cells, held against the chapter's words behind each act.
func TestInTurn(t *testing.T) {
	r := rand.New(rand.NewSource(2020))
	for turn := range 500 {
		p := newPair(t, 1+turn%waiting64)
		wide := 1 + r.Intn(5)
		calm := 5 + r.Intn(60)
		for range 300 {
			epoch, index := r.Intn(wide), 1+r.Intn(wide)
			switch r.Intn(40) {
			case 0:
				epoch = epochs - r.Intn(2)
			case 1:
				index = keys256 - r.Intn(2)
			case 2:
				epoch = noEpochs[r.Intn(len(noEpochs))]
			case 3:
				index = noIndexes[r.Intn(len(noIndexes))]
			}
			x := make([]byte, r.Intn(4))
			if r.Intn(20) == 0 {
				x = make([]byte, 90+r.Intn(8))
			}
			for k := range x {
				x[k] = byte(r.Intn(8))
			}
			switch r.Intn(calm) {
			case 0:
				p.does(t, take, epoch, index, nil)
			case 1:
				p.does(t, drop, epoch%2, index-1, nil)
			case 2:
				p.does(t, take, 0, 1, nil)
			default:
				p.does(t, put, epoch, index, x)
			}
		}
		p.ends(t)
	}
}

// P1, P20.1, P20.2: whatever is asked in turn is answered as the chapter's words say.
func FuzzAll(f *testing.F) {
	f.Add(2, 1, 1, 1, 2, []byte("some bytes that are cut"), uint32(0))
	f.Add(1, 0, 256, 65535, 1, []byte("aabbcc"), uint32(0b100100010000))
	f.Add(64, -1, 257, 65536, 0, make([]byte, 97), uint32(0xFFFF))
	f.Add(65, math.MinInt, math.MaxInt, math.MaxInt, math.MinInt, []byte{}, uint32(7))
	f.Fuzz(func(t *testing.T, most int, e1 int, i1 int, e2 int, i2 int, all []byte, kinds uint32) {
		if most < 1 || most > waiting64 {
			if b, e := New(most); b != nil || e != api.ErrArg {
				t.Fatalf("New(%d) = %v, %v", most, b, e)
			}
			return
		}
		p := newPair(t, most)
		cells := []cell{{e1, i1}, {e2, i2}, {e1, i2}, {1, 1}, {e2 % 4, 1 + i1%4}}
		for k := range 40 {
			c := cells[(k+int(kinds>>(k%29)))%len(cells)]
			at := k * len(all) / 40
			kind := put
			if n := int(kinds>>(k%31)) % 8; n < acts {
				kind = n
			}
			p.does(t, kind, c[0], c[1], all[at:min(len(all), at+k%5)])
		}
		p.does(t, put, e1, i1, all)
		p.ends(t)
	})
}
