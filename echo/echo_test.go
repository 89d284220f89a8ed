package echo

import (
	"bytes"
	"crypto/hmac"
	"crypto/sha256"
	"encoding/binary"
	"encoding/hex"
	"fmt"
	"math"
	"math/rand"
	"reflect"
	"slices"
	"testing"

	"carillon/api"
	"carillon/crc"
	"carillon/frame"
	"carillon/ival"
	"carillon/kdf"
	"carillon/osc"
	"carillon/rate"
	"carillon/seal"
)

// The limits as the document writes them.
const (
	epochs   = 65535
	rounds20 = 1 << 20
	end40    = 1 << 40
	key16    = 16
	counts   = 1<<32 - 1
	nodes8   = 8
)

// usual is a config that is right, with a drift of 3 in all.
func usual() api.Config {
	return api.Config{N: 3, Slot: 400, Delay: 1, Keys: 16, E: 400, Window: 400, Rho: 1, Slew: 2, Cap: 8}
}

// sizes are configs that are right: the least, the greatest, and one of each number of nodes.
func sizes() []api.Config {
	all := []api.Config{
		usual(),
		{N: 1, Slot: 300, Delay: 1, Keys: 5, E: 1, Window: 100, Cap: 1},
		{N: 8, F: 2, Slot: 10000, Delay: 4, Keys: 256, E: 40000, Window: 40000, Rho: 5, Slew: 5, Cap: 64},
	}
	for n := 1; n <= nodes8; n++ {
		all = append(all, api.Config{N: n, F: (n - 1) / 3, Slot: 300 + 97*n, Delay: 1 + n%4, Keys: 8 + 3*n, E: 150 * n, Window: 100 + 101*n, Rho: n % 6, Slew: (n * 5) % 6, Cap: 1 + 4*(n-1)})
	}
	return all
}

// span is KeyBytes bytes, each one more than the one ahead, with room behind them.
func span(from byte) []byte {
	b := make([]byte, key16, 2*key16)
	for i := range b {
		b[i] = from + byte(i)
	}
	return b
}

// library is the tag of bytes by the library.
func library(with []byte, b []byte) []byte {
	h := hmac.New(sha256.New, with)
	h.Write(b)
	return h.Sum(nil)
}

// derived is the key of a label and numbers, by the library's tag.
func derived(from []byte, label string, l ...uint64) []byte {
	info := append([]byte(label), 0)
	for _, n := range l {
		info = binary.BigEndian.AppendUint64(info, n)
	}
	return library(from, append(info, 1))[:key16]
}

// shared is the key that two nodes share.
func shared(master []byte, i int, j int) []byte {
	return derived(master, "pair", uint64(min(i, j)), uint64(max(i, j)))
}

// spell is the digits of a number.
func spell(n uint64, width int) string {
	return fmt.Sprintf("%0*b", width, n)
}

// spellAll is the digits of all bytes.
func spellAll(b []byte) string {
	s := ""
	for _, c := range b {
		s += spell(uint64(c), 8)
	}
	return s
}

// packed is the bytes of digits, the last of them filled up with 0.
func packed(digits string) []byte {
	b := make([]byte, (len(digits)+7)/8)
	for i, d := range digits {
		if d == '1' {
			b[i/8] |= 0x80 >> (i % 8)
		}
	}
	return b
}

// fixed is bytes with FlexRay's sum of a frame behind them.
func fixed(b []byte) []byte {
	sum := uint32(0xFEDCBA)
	for _, d := range spellAll(b) {
		top := sum >> 23
		sum = sum << 1 & 0xFFFFFF
		if top != uint32(d-'0') {
			sum ^= 0x5D6DCB
		}
	}
	return append(slices.Clone(b), byte(sum>>16), byte(sum>>8), byte(sum))
}

// tagged is the frame of the digits of a core, with its tag under a key.
func tagged(core string, with []byte) []byte {
	tag := library(derived(with, "mac"), packed(core))[:8]
	return fixed(packed(core + spellAll(tag)))
}

// head is the digits with which a ping or a pong begins.
func head(kind int, from int, to int, nonce uint64) string {
	return spell(uint64(kind), 4) + spell(uint64(from), 4) + spell(uint64(to), 4) + spell(nonce, 64)
}

// pinged is a ping by the chapters' words.
func pinged(master []byte, from int, to int, nonce uint64) []byte {
	return tagged(head(2, from, to, nonce), shared(master, from, to))
}

// said is what a pong says, but for whose and to what.
type said struct {
	stamp int64
	epoch int
	start int
	index int
	key   []byte
}

// can tells whether it can be in a pong.
func (s said) can() bool {
	return s.stamp >= 0 && s.stamp <= 1099511627776 && s.epoch >= 0 && s.epoch <= 65535 &&
		s.start >= 0 && s.start <= 1048576 && s.index >= 0 && s.index <= 256 && len(s.key) == 16
}

// ponged is a pong by the chapters' words.
func ponged(master []byte, from int, to int, nonce uint64, s said) []byte {
	core := head(3, from, to, nonce) + spell(uint64(s.stamp), 48) + spell(uint64(s.epoch), 16) + spell(uint64(s.start), 24) + spell(uint64(s.index), 16) + spellAll(s.key)
	return tagged(core, shared(master, from, to))
}

// ordinary is what an ordinary pong says.
func ordinary() said {
	return said{1500, 3, 4, 5, span(0x40)}
}

// others are things to say with each number at its ends.
func others() []said {
	return []said{
		{0, 0, 0, 0, make([]byte, key16)},
		{1, 1, 1, 1, span(1)},
		{end40, epochs, rounds20, 256, bytes.Repeat([]byte{255}, key16)},
		{end40 - 1, epochs - 1, rounds20 - 1, 255, span(240)},
		{123456789, 77, 1000, 16, span(0x40)},
	}
}

// copied is a frame that shares no memory with f.
func copied(f api.Frame) api.Frame {
	f.Key, f.Body, f.Tag = slices.Clone(f.Key), slices.Clone(f.Body), slices.Clone(f.Tag)
	return f
}

// alike tells whether two are the same as texts, in which nil and empty lists are no different.
func alike(a any, b any) bool {
	return fmt.Sprintf("%v", a) == fmt.Sprintf("%v", b)
}

// got is the frame that stands in bytes.
func got(t testing.TB, b []byte) api.Frame {
	t.Helper()
	f, e := frame.Get(b)
	if e != api.OK {
		t.Fatalf("frame.Get(%x): %v", b, e)
	}
	return f
}

// put is a frame as bytes, under a key.
func put(t testing.TB, f api.Frame, with []byte) []byte {
	t.Helper()
	b, e := seal.Seal(f, with)
	if e != api.OK {
		t.Fatalf("seal.Seal(%v): %v", f, e)
	}
	return b
}

// wait is a ping that waits.
type wait struct {
	nonce uint64
	asked int64
}

// words is an echo by the chapter's words.
type words struct {
	c           api.Config
	master      []byte
	i           int
	incarnation int
	count       int64
	waits       map[int]wait
}

// right tells whether a ping or a pong is right, and to this node.
func (w *words) right(f api.Frame, kind int) bool {
	if f.Kind != kind || f.To != w.i || f.From < 0 || f.From > 7 || f.From == f.To || f.Round != 0 || f.View != 0 || len(f.Body) != 0 || len(f.Tag) != 8 {
		return false
	}
	s := said{f.Stamp, f.Epoch, f.Start, f.Index, f.Key}
	if kind == 2 {
		return alike(s, said{})
	}
	return s.can()
}

func (w *words) ask(to int, now int64) ([]byte, api.Errno) {
	switch {
	case to < 0 || to >= w.c.N || to == w.i || now < 0 || now > 1099511627776:
		return nil, api.ErrArg
	case w.count == 4294967295:
		return nil, api.ErrFull
	}
	w.count++
	nonce := uint64(int64(w.incarnation)*4294967296 + w.count)
	w.waits[to] = wait{nonce, now}
	return pinged(w.master, w.i, to, nonce), api.OK
}

func (w *words) reply(f api.Frame, s said) ([]byte, api.Errno) {
	if !w.right(f, 2) || !s.can() {
		return nil, api.ErrArg
	}
	return ponged(w.master, w.i, f.From, f.Nonce, s), api.OK
}

func (w *words) hear(f api.Frame, now int64) (Answer, api.Errno) {
	if !w.right(f, 3) || f.From >= w.c.N || now < 0 || now > 1099511627776 {
		return Answer{}, api.ErrArg
	}
	q, waits := w.waits[f.From]
	if !waits || q.nonce != f.Nonce || now < q.asked {
		return Answer{}, api.ErrNone
	}
	delete(w.waits, f.From)
	if now-q.asked > int64(w.c.Window) {
		return Answer{}, api.ErrLate
	}
	drift := int64(w.c.Rho + w.c.Slew)
	most := (now - q.asked) * (100 + drift) / (100 - drift)
	return Answer{f.From, api.Ival{Lo: f.Stamp - now, Hi: f.Stamp + most - now}, f.Epoch, f.Start, f.Index, slices.Clone(f.Key)}, api.OK
}

func (w *words) open(b []byte) (api.Frame, api.Errno) {
	f, e := frame.Get(b)
	switch {
	case e != api.OK:
		return api.Frame{}, e
	case f.Kind == 1 || f.To != w.i:
		return api.Frame{}, api.ErrArg
	}
	core, _ := frame.Core(f)
	if with := shared(w.master, f.From, w.i); !bytes.Equal(library(derived(with, "mac"), core)[:8], f.Tag) {
		return api.Frame{}, api.ErrTag
	}
	return f, api.OK
}

// twin is an echo, and the same one by the chapter's words.
type twin struct {
	e *Echo
	w *words
}

func newTwin(t testing.TB, c api.Config, master []byte, i int, incarnation int) twin {
	t.Helper()
	e, errno := New(c, master, i, incarnation)
	if e == nil || errno != api.OK {
		t.Fatalf("New(%+v, %x, %d, %d) = %v, %v", c, master, i, incarnation, e, errno)
	}
	p := twin{e, &words{c: c, master: slices.Clone(master), i: i, incarnation: incarnation, waits: map[int]wait{}}}
	p.holds(t)
	return p
}

// couple are two nodes of the usual config.
func couple(t testing.TB) (twin, twin) {
	t.Helper()
	return newTwin(t, usual(), span(0), 0, 7), newTwin(t, usual(), span(0), 1, 9)
}

// holds checks of which nodes a ping waits.
func (p twin) holds(t testing.TB) {
	t.Helper()
	for _, to := range []int{-1, 0, 1, 2, 3, 4, 5, 6, 7, 8, 9, 1 << 32, math.MinInt, math.MaxInt} {
		if _, want := p.w.waits[to]; p.e.Asked(to) != want {
			t.Fatalf("Asked(%d) of node %d: %t", to, p.w.i, !want)
		}
	}
}

// state is all that an echo is made of, for a look at it later.
func (p twin) state() Echo {
	s := *p.e
	s.master = slices.Clone(s.master)
	return s
}

// stays checks that nothing has changed.
func (p twin) stays(t testing.TB, was Echo) {
	t.Helper()
	if now := p.state(); !reflect.DeepEqual(now, was) {
		t.Fatalf("%+v has become %+v", was, now)
	}
}

// ask checks one call of Ask.
func (p twin) ask(t testing.TB, to int, now int64) ([]byte, api.Errno) {
	t.Helper()
	was := p.state()
	b, e := p.e.Ask(to, now)
	want, wantE := p.w.ask(to, now)
	if !bytes.Equal(b, want) || e != wantE {
		t.Fatalf("Ask(%d, %d) of node %d = %x, %v, want %x, %v", to, now, p.w.i, b, e, want, wantE)
	}
	if e != api.OK {
		p.stays(t, was)
	}
	p.holds(t)
	return b, e
}

// reply checks one call of Reply.
func (p twin) reply(t testing.TB, f api.Frame, s said) ([]byte, api.Errno) {
	t.Helper()
	was, wasF, wasKey := p.state(), copied(f), slices.Clone(s.key)
	b, e := p.e.Reply(f, s.stamp, s.epoch, s.start, s.index, s.key)
	want, wantE := p.w.reply(f, s)
	if !bytes.Equal(b, want) || e != wantE {
		t.Fatalf("Reply(%v, %v) of node %d = %x, %v, want %x, %v", f, s, p.w.i, b, e, want, wantE)
	}
	if !alike(f, wasF) || !bytes.Equal(s.key, wasKey) {
		t.Fatalf("%v, %x have become %v, %x", wasF, wasKey, f, s.key)
	}
	p.stays(t, was)
	p.holds(t)
	return b, e
}

// hear checks one call of Hear.
func (p twin) hear(t testing.TB, f api.Frame, now int64) (Answer, api.Errno) {
	t.Helper()
	was, wasF := p.state(), copied(f)
	a, e := p.e.Hear(f, now)
	want, wantE := p.w.hear(f, now)
	if !alike(a, want) || e != wantE {
		t.Fatalf("Hear(%v, %d) of node %d = %v, %v, want %v, %v", f, now, p.w.i, a, e, want, wantE)
	}
	if !alike(f, wasF) {
		t.Fatalf("%v has become %v", wasF, f)
	}
	if e == api.OK || e == api.ErrLate {
		was.waits[f.From] = question{}
	}
	p.stays(t, was)
	p.holds(t)
	return a, e
}

// open checks one call of Open.
func (p twin) open(t testing.TB, b []byte) (api.Frame, api.Errno) {
	t.Helper()
	was, wasB := p.state(), slices.Clone(b)
	f, e := p.e.Open(b)
	want, wantE := p.w.open(b)
	if !alike(f, want) || e != wantE {
		t.Fatalf("Open(%x) of node %d = %v, %v, want %v, %v", b, p.w.i, f, e, want, wantE)
	}
	if !bytes.Equal(b, wasB) {
		t.Fatalf("%x has become %x", wasB, b)
	}
	p.stays(t, was)
	p.holds(t)
	return f, e
}

// forget checks Forget.
func (p twin) forget(t testing.TB) {
	t.Helper()
	was := p.state()
	p.e.Forget()
	clear(p.w.waits)
	was.waits = [api.MaxNodes]question{}
	p.stays(t, was)
	p.holds(t)
}

// asks is a ping that must be told.
func (p twin) asks(t testing.TB, to int, now int64) []byte {
	t.Helper()
	b, e := p.ask(t, to, now)
	if e != api.OK {
		t.Fatalf("Ask(%d, %d): %v", to, now, e)
	}
	return b
}

// answers opens a ping, and replies to it; both must be told.
func (p twin) answers(t testing.TB, b []byte, s said) []byte {
	t.Helper()
	f := p.opens(t, b, api.OK)
	pong, e := p.reply(t, f, s)
	if e != api.OK {
		t.Fatalf("Reply(%v, %v): %v", f, s, e)
	}
	return pong
}

// opens checks what error Open answers.
func (p twin) opens(t testing.TB, b []byte, want api.Errno) api.Frame {
	t.Helper()
	f, e := p.open(t, b)
	if e != want {
		t.Fatalf("Open(%x) of node %d: %v, want %v", b, p.w.i, e, want)
	}
	return f
}

// hears opens a pong, and checks what error Hear answers.
func (p twin) hears(t testing.TB, b []byte, now int64, want api.Errno) Answer {
	t.Helper()
	return p.takes(t, p.opens(t, b, api.OK), now, want)
}

// takes checks what error Hear answers.
func (p twin) takes(t testing.TB, f api.Frame, now int64, want api.Errno) Answer {
	t.Helper()
	a, e := p.hear(t, f, now)
	if e != want {
		t.Fatalf("Hear(%v, %d) of node %d: %v, want %v", f, now, p.w.i, e, want)
	}
	return a
}

// P23.3: the chapter's example.
func TestExample(t *testing.T) {
	a, b := couple(t)
	pong := b.answers(t, a.asks(t, 1, 1000), ordinary())
	answer := a.hears(t, pong, 1100, api.OK)
	want := Answer{From: 1, Off: api.Ival{Lo: 400, Hi: 506}, Epoch: 3, Start: 4, Index: 5, Key: span(0x40)}
	if !alike(answer, want) {
		t.Errorf("%v, want %v", answer, want)
	}
}

// P23.1: pings worked out apart.
func TestPingBytes(t *testing.T) {
	c := usual()
	c.N = 8
	for _, x := range []struct {
		from, to, incarnation int
		ahead                 uint32
		want                  string
	}{
		{0, 1, 7, 0, "201000000070000000144fbc3cbe79bd5ba01dad45"},
		{2, 0, 0, 0, "22000000000000000012d3b18bc14bf8ec00f5036d"},
		{1, 2, 65535, 0, "2120000ffff00000001ef5e53a7bf7b728200de247"},
		{1, 2, 65535, 1, "2120000ffff00000002c746db362406dcb30368d51"},
		{7, 3, 300, counts - 1, "2730000012cffffffffb663e266c51462320d822eb"},
	} {
		e, _ := New(c, span(0), x.from, x.incarnation)
		e.count = x.ahead
		b, errno := e.Ask(x.to, 5)
		if hex.EncodeToString(b) != x.want || errno != api.OK {
			t.Errorf("Ask of %+v: %x, %v", x, b, errno)
		}
	}
}

// P23.2: pongs worked out apart.
func TestPongBytes(t *testing.T) {
	c := usual()
	c.N = 8
	for _, x := range []struct {
		from, to            int
		nonce               uint64
		stamp               int64
		epoch, start, index int
		want                string
	}{
		{1, 0, 7<<32 | 1, 1500, 3, 4, 5, "31000000007000000010000000005dc00030000040005404142434445464748494a4b4c4d4e4f7f48877073b9d55d0a7a881"},
		{0, 2, 1, 0, 0, 0, 0, "302000000000000000100000000000000000000000000404142434445464748494a4b4c4d4e4f6d1d38114538aca608129b1"},
		{2, 1, 65535<<32 | 2, end40, epochs, rounds20, 256, "3210000ffff00000002010000000000ffff1000000100404142434445464748494a4b4c4d4e4f6a6a8f114ea6bae00e35df9"},
		{3, 7, 300<<32 | counts, 123456789, 77, 1000, 16, "3370000012cffffffff0000075bcd15004d0003e80010404142434445464748494a4b4c4d4e4fe864da7af1fbe8130f114fc"},
	} {
		e, _ := New(c, span(0), x.from, 1)
		f := api.Frame{Kind: api.FPing, From: x.to, To: x.from, Nonce: x.nonce, Tag: make([]byte, 8)}
		b, errno := e.Reply(f, x.stamp, x.epoch, x.start, x.index, span(0x40))
		if hex.EncodeToString(b) != x.want || errno != api.OK {
			t.Errorf("Reply of %+v: %x, %v", x, b, errno)
		}
	}
}

// P23.1: each node of each config has an echo, of any incarnation, with any master.
func TestNew(t *testing.T) {
	for _, c := range sizes() {
		for i := range c.N {
			for _, incarnation := range []int{0, 1, 2, 255, 256, 65534, 65535} {
				for _, master := range [][]byte{span(1), make([]byte, key16), bytes.Repeat([]byte{255}, key16)} {
					newTwin(t, c, master, i, incarnation)
				}
			}
		}
	}
}

// noNew checks that New makes no echo.
func noNew(t *testing.T, c api.Config, master []byte, i int, incarnation int) {
	t.Helper()
	if e, errno := New(c, master, i, incarnation); e != nil || errno != api.ErrArg {
		t.Errorf("New(%+v, %d bytes, %d, %d) = %v, %v", c, len(master), i, incarnation, e, errno)
	}
}

// noKeys are lists that have not KeyBytes.
func noKeys() [][]byte {
	return [][]byte{nil, {}, {1}, make([]byte, key16-1), make([]byte, key16+1), make([]byte, 2*key16), make([]byte, 256+key16), make([]byte, 1<<16+key16)}
}

// P23.1, P3: numbers that are no node, no incarnation, and masters of other lengths.
func TestNewWrong(t *testing.T) {
	wild := []int{-1, -2, 1 << 32, 1<<32 + 1, math.MinInt, math.MinInt + 1, math.MaxInt, math.MinInt32, math.MaxInt32}
	for _, c := range sizes() {
		for _, i := range append([]int{c.N, c.N + 1, -c.N, 256}, wild...) {
			noNew(t, c, span(1), i, 5)
			noNew(t, c, nil, i, -1)
		}
		for _, incarnation := range append([]int{65536, 65537, 131072, 1 << 48}, wild...) {
			noNew(t, c, span(1), 0, incarnation)
			noNew(t, c, span(1), c.N-1, incarnation)
		}
		for _, master := range noKeys() {
			for i := -1; i <= c.N; i++ {
				noNew(t, c, master, i, 5)
			}
		}
	}
}

// P23.1: configs that are not right, each by one number.
func TestNewWrongConfig(t *testing.T) {
	wrong := []func(c *api.Config, bad int){
		func(c *api.Config, bad int) { c.N = bad },
		func(c *api.Config, bad int) { c.F = bad },
		func(c *api.Config, bad int) { c.Slot = bad },
		func(c *api.Config, bad int) { c.Delay = bad },
		func(c *api.Config, bad int) { c.Keys = bad },
		func(c *api.Config, bad int) { c.E = bad },
		func(c *api.Config, bad int) { c.Window = bad },
		func(c *api.Config, bad int) { c.Rho = bad },
		func(c *api.Config, bad int) { c.Slew = bad },
		func(c *api.Config, bad int) { c.Cap = bad },
	}
	var all []api.Config
	for _, set := range wrong {
		for _, bad := range []int{-1, 10001, math.MinInt, math.MaxInt, math.MinInt32, math.MaxInt32} {
			c := usual()
			set(&c, bad)
			all = append(all, c)
		}
	}
	all = append(all,
		api.Config{},
		api.Config{N: 9, Slot: 400, Delay: 1, Keys: 16, E: 400, Window: 400, Cap: 8},
		api.Config{N: 3, F: 1, Slot: 400, Delay: 1, Keys: 16, E: 400, Window: 400, Cap: 8},
		api.Config{N: 3, Slot: 299, Delay: 1, Keys: 16, E: 400, Window: 400, Cap: 8},
		api.Config{N: 3, Slot: 400, Delay: 1, Keys: 4, E: 400, Window: 400, Cap: 8},
		api.Config{N: 3, Slot: 400, Delay: 1, Keys: 16, E: 400, Window: 99, Cap: 8},
		api.Config{N: 3, Slot: 400, Delay: 1, Keys: 16, E: 400, Window: 1601, Cap: 8},
		api.Config{N: 3, Slot: 400, Delay: 1, Keys: 16, E: 400, Window: 400, Rho: 6, Cap: 8},
		api.Config{N: 3, Slot: 400, Delay: 1, Keys: 16, E: 400, Window: 400, Slew: 6, Cap: 8})
	for _, c := range all {
		for _, i := range []int{0, 2, -1} {
			noNew(t, c, span(1), i, 0)
			noNew(t, c, nil, i, -1)
		}
	}
}

// fromPackages checks a ping and the pong to it, and what was heard, against packages frame, seal, kdf and rate.
func fromPackages(t *testing.T, c api.Config, master []byte, ping []byte, pong []byte, a Answer, asked int64, now int64) {
	t.Helper()
	p, q := got(t, ping), got(t, pong)
	with, e := kdf.Pair(master, p.From, p.To)
	if e != api.OK || !seal.Holds(p, with) || !seal.Holds(q, with) {
		t.Fatalf("%v, %v do not hold: %v", p, q, e)
	}
	if q.From != p.To || q.To != p.From || q.Nonce != p.Nonce {
		t.Fatalf("%v is no answer to %v", q, p)
	}
	for _, f := range []api.Frame{p, q} {
		if back := put(t, f, with); !bytes.Equal(back, ping) && !bytes.Equal(back, pong) {
			t.Fatalf("%v is %x", f, back)
		}
	}
	most, e := rate.Most(now-asked, c.Rho+c.Slew)
	if e != api.OK {
		t.Fatal(e)
	}
	want := Answer{q.From, api.Ival{Lo: q.Stamp - now, Hi: q.Stamp + most - now}, q.Epoch, q.Start, q.Index, q.Key}
	if !alike(a, want) {
		t.Fatalf("%v, want %v", a, want)
	}
}

// P23.1 to P23.3: each two nodes of each config ask, open, reply and hear at many times.
func TestTwo(t *testing.T) {
	for n, c := range sizes() {
		for i := range c.N {
			for j := range c.N {
				if i == j {
					continue
				}
				master := span(byte(n))
				a, b := newTwin(t, c, master, i, 1000*n+i), newTwin(t, c, master, j, j)
				for k, s := range append(others(), ordinary()) {
					for _, gone := range []int64{0, 1, 33, int64(c.Window) - 1, int64(c.Window)} {
						asked := []int64{0, 1, 999, 1 << 30, end40 - int64(c.Window)}[k%5]
						ping := a.asks(t, j, asked)
						pong := b.answers(t, ping, s)
						answer := a.hears(t, pong, asked+gone, api.OK)
						fromPackages(t, c, master, ping, pong, answer, asked, asked+gone)
					}
				}
			}
		}
	}
}

// P23.1: whom a node asks: all others, each at any time, but not itself, and nobody else.
func TestAskWhom(t *testing.T) {
	for _, c := range sizes() {
		for i := range c.N {
			p := newTwin(t, c, span(3), i, 3)
			for _, to := range []int{-1, -2, 0, 1, 2, 3, 4, 5, 6, 7, 8, 9, 15, 16, 256, 1 << 32, 1<<32 + 1, math.MinInt, math.MaxInt} {
				for _, now := range []int64{0, 1, 5000, end40 - 1, end40} {
					_, e := p.ask(t, to, now)
					if other := to >= 0 && to < c.N && to != i; (e == api.OK) != other || !other && e != api.ErrArg {
						t.Errorf("Ask(%d, %d) of node %d of %d: %v", to, now, i, c.N, e)
					}
				}
			}
		}
	}
}

// P23.1: times that can't be; what waits goes on waiting, and the count stays.
func TestAskWhen(t *testing.T) {
	a, b := couple(t)
	ping := a.asks(t, 1, 100)
	for _, now := range []int64{-1, -2, end40 + 1, end40 + 2, 2 * end40, math.MinInt64, math.MaxInt64, -end40} {
		for _, to := range []int{0, 1, 2, 3, -1} {
			if _, e := a.ask(t, to, now); e != api.ErrArg {
				t.Errorf("Ask(%d, %d): %v", to, now, e)
			}
		}
	}
	if next := got(t, a.asks(t, 2, 100)); next.Nonce != 7<<32+2 {
		t.Errorf("nonce %x behind refused calls", next.Nonce)
	}
	a.hears(t, b.answers(t, ping, ordinary()), 150, api.OK)
	for _, now := range []int64{0, end40} {
		ping := a.asks(t, 1, now)
		a.hears(t, b.answers(t, ping, ordinary()), now, api.OK)
	}
}

// P23.1: a second ping of the same node waits in the place of the first; pings of others wait beside it.
func TestAskAgain(t *testing.T) {
	c := usual()
	a := newTwin(t, c, span(0), 0, 7)
	b, d := newTwin(t, c, span(0), 1, 9), newTwin(t, c, span(0), 2, 9)
	first := b.answers(t, a.asks(t, 1, 1000), ordinary())
	other := d.answers(t, a.asks(t, 2, 1010), ordinary())
	second := b.answers(t, a.asks(t, 1, 1020), ordinary())
	a.hears(t, first, 1030, api.ErrNone)
	if x := a.hears(t, second, 1030, api.OK); x.From != 1 || x.Off != (api.Ival{Lo: 470, Hi: 480}) {
		t.Errorf("%v", x)
	}
	a.hears(t, first, 1030, api.ErrNone)
	a.hears(t, second, 1030, api.ErrNone)
	if x := a.hears(t, other, 1110, api.OK); x.From != 2 || x.Off != (api.Ival{Lo: 390, Hi: 496}) {
		t.Errorf("%v", x)
	}
	// Behind an answer, it is asked anew; an earlier time than that of the one ahead is one as any other.
	third := b.answers(t, a.asks(t, 1, 10), ordinary())
	a.hears(t, second, 20, api.ErrNone)
	a.hears(t, third, 20, api.OK)
}

// P23.1: behind Forget none waits; the nonces go on.
func TestForget(t *testing.T) {
	c := sizes()[10]
	a := newTwin(t, c, span(0), 3, 1)
	a.forget(t)
	var pongs [][]byte
	for to := range c.N {
		if to != 3 {
			b := newTwin(t, c, span(0), to, 1)
			pongs = append(pongs, b.answers(t, a.asks(t, to, 50), ordinary()))
		}
	}
	a.forget(t)
	for _, pong := range pongs {
		a.hears(t, pong, 60, api.ErrNone)
	}
	b := newTwin(t, c, span(0), 6, 1)
	ping := a.asks(t, 6, 50)
	if f := got(t, ping); f.Nonce != 1<<32+8 {
		t.Errorf("nonce %x behind Forget", f.Nonce)
	}
	a.hears(t, b.answers(t, ping, ordinary()), 60, api.OK)
}

// P23.1: the nonces of many pings: the incarnation times 2^32 and the count, none twice.
func TestNonces(t *testing.T) {
	seen := map[uint64]bool{}
	c := sizes()[10]
	for _, incarnation := range []int{0, 1, 2, 1000, 32768, 65534, 65535} {
		e, _ := New(c, span(5), 4, incarnation)
		for n := range 1500 {
			if n%7 == 3 {
				e.Forget()
				e.Ask(4, 0)
				e.Ask(n%4, -1)
			}
			b, errno := e.Ask([]int{0, 1, 2, 3, 5, 6, 7}[n*n%7], int64(n))
			nonce := got(t, b).Nonce
			if nonce != uint64(incarnation)*4294967296+uint64(n)+1 || seen[nonce] || errno != api.OK {
				t.Fatalf("ping %d of incarnation %d has nonce %d, %v", n, incarnation, nonce, errno)
			}
			seen[nonce] = true
		}
	}
}

// P23.1: the last count there is, and none behind it; the nonce of no incarnation reaches into the next.
func TestFull(t *testing.T) {
	for _, incarnation := range []int{0, 7, 65535} {
		a, b := newTwin(t, usual(), span(0), 0, incarnation), newTwin(t, usual(), span(0), 1, 9)
		a.e.count, a.w.count = counts-2, counts-2
		a.asks(t, 2, 100)
		last := a.asks(t, 1, 100)
		if f := got(t, last); f.Nonce != uint64(incarnation)<<32+counts {
			t.Errorf("the last nonce is %x", f.Nonce)
		}
		for _, to := range []int{1, 2} {
			for _, now := range []int64{0, 100, end40} {
				if _, e := a.ask(t, to, now); e != api.ErrFull {
					t.Errorf("Ask(%d, %d): %v", to, now, e)
				}
			}
		}
		for _, to := range []int{-1, 0, 3} {
			if _, e := a.ask(t, to, 100); e != api.ErrArg {
				t.Errorf("Ask(%d): %v", to, e)
			}
		}
		if _, e := a.ask(t, 1, -1); e != api.ErrArg {
			t.Errorf("Ask at -1: %v", e)
		}
		a.hears(t, b.answers(t, last, ordinary()), 200, api.OK)
		a.forget(t)
		if _, e := a.ask(t, 1, 100); e != api.ErrFull {
			t.Errorf("Ask behind Forget: %v", e)
		}
	}
}

// P23.2: bytes that are no frame have frame.Get's error.
func TestOpenNoFrame(t *testing.T) {
	a, b := couple(t)
	ping := a.asks(t, 1, 1000)
	pong := b.answers(t, ping, ordinary())
	for _, short := range [][]byte{nil, {}, {0}, {1, 2}} {
		b.opens(t, short, api.ErrShort)
	}
	for _, whole := range [][]byte{ping, pong} {
		for n := 3; n < len(whole); n++ {
			if _, e := b.open(t, whole[:n]); e == api.OK || e == api.ErrShort {
				t.Errorf("Open of %d bytes of %d: %v", n, len(whole), e)
			}
		}
		b.opens(t, append(slices.Clone(whole), 1), api.ErrSum)
		bare := whole[:len(whole)-3]
		b.opens(t, fixed(bare[:len(bare)-1]), api.ErrForm)
		b.opens(t, fixed(append(slices.Clone(bare), 0)), api.ErrForm)
		b.opens(t, make([]byte, len(whole)), api.ErrSum)
	}
	for kind := range 16 {
		if kind < 1 || kind > 3 {
			b.opens(t, tagged(head(kind, 0, 1, 5), shared(span(0), 0, 1)), api.ErrForm)
		}
	}
	b.opens(t, fixed(nil), api.ErrForm)
}

// P23.2: no frame with a burst of up to 24 bits is opened.
func TestOpenBurst(t *testing.T) {
	a, b := couple(t)
	ping := a.asks(t, 1, 1000)
	pong := b.answers(t, ping, ordinary())
	random := rand.New(rand.NewSource(23))
	for at := range 8 * len(pong) {
		for _, pattern := range []uint32{1 << 31, 0xC0000000, 0xFFFFFF00, 0x80000100, random.Uint32()&^0xFF | 1<<31} {
			for k, whole := range [][]byte{ping, pong} {
				if at >= 8*len(whole) {
					continue
				}
				spoilt := crc.Burst(len(whole), at, pattern)
				for i := range spoilt {
					spoilt[i] ^= whole[i]
				}
				[]twin{b, a}[k].opens(t, spoilt, api.ErrSum)
			}
		}
	}
	b.opens(t, ping, api.OK)
	a.opens(t, pong, api.OK)
}

// P23.2: a core is no frame, with a sum behind it neither.
func TestOpenCore(t *testing.T) {
	a, b := couple(t)
	ping := a.asks(t, 1, 1000)
	pong := b.answers(t, ping, ordinary())
	for k, whole := range [][]byte{ping, pong} {
		core, e := frame.Core(got(t, whole))
		if e != api.OK {
			t.Fatal(e)
		}
		reader := []twin{b, a}[k]
		reader.opens(t, core, api.ErrSum)
		reader.opens(t, fixed(core), api.ErrForm)
	}
}

// P23.2: what is no ping or pong to the node: to others, of itself, data; with a tag that holds, and without.
func TestOpenNotToIt(t *testing.T) {
	c := sizes()[10]
	for i := range c.N {
		p := newTwin(t, c, span(0), i, 1)
		for from := range c.N {
			for to := range c.N {
				if from == to {
					continue
				}
				want := api.OK
				if to != i {
					want = api.ErrArg
				}
				p.opens(t, pinged(span(0), from, to, 5), want)
				p.opens(t, ponged(span(0), from, to, 5, ordinary()), want)
				if to != i {
					p.opens(t, pinged(span(1), from, to, 5), api.ErrArg)
					p.opens(t, ponged(span(1), from, to, 5, ordinary()), api.ErrArg)
				}
			}
		}
		// A data frame's To is 0, but it is to nobody.
		for from := range c.N {
			for _, with := range [][]byte{span(7), shared(span(0), from, i), shared(span(0), from, 0)} {
				p.opens(t, put(t, api.Frame{Kind: api.FData, From: from, Epoch: 1, Round: 2, View: 3, Key: span(9), Body: []byte("hi")}, with), api.ErrArg)
			}
		}
		own := p.asks(t, (i+1)%c.N, 100)
		p.opens(t, own, api.ErrArg)
		// Nobody asks himself: such bytes are no frame.
		p.opens(t, pinged(span(0), i, i, 5), api.ErrForm)
		p.opens(t, ponged(span(0), i, i, 5, ordinary()), api.ErrForm)
	}
}

// P23.2: no tag holds but that under the key of the two nodes.
func TestOpenOtherKeys(t *testing.T) {
	c := sizes()[10]
	master := span(0)
	p := newTwin(t, c, master, 2, 1)
	ping := api.Frame{Kind: api.FPing, From: 5, To: 2, Nonce: 77}
	pong := api.Frame{Kind: api.FPong, From: 5, To: 2, Nonce: 77, Stamp: 5, Epoch: 1, Start: 2, Index: 3, Key: span(9)}
	with := [][]byte{master, span(1), make([]byte, key16), shared(span(1), 2, 5), derived(shared(master, 2, 5), "mac"), derived(master, "own", 2), derived(master, "own", 5), derived(master, "pair", 5, 2), derived(master, "pair", 2), derived(master, "pair")}
	for i := range c.N {
		for j := range i {
			if j != 2 || i != 5 {
				with = append(with, shared(master, i, j))
			}
		}
	}
	for bit := range 8 * key16 {
		turned := shared(master, 2, 5)
		turned[bit/8] ^= 1 << (bit % 8)
		with = append(with, turned)
	}
	for _, f := range []api.Frame{ping, pong} {
		for _, key := range with {
			p.opens(t, put(t, f, key), api.ErrTag)
		}
		right := put(t, f, shared(master, 2, 5))
		f := p.opens(t, right, api.OK)
		for bit := range 64 {
			turned := copied(f)
			turned.Tag[bit/8] ^= 1 << (bit % 8)
			b, _ := frame.Put(turned)
			p.opens(t, b, api.ErrTag)
		}
		// The tag of one who says that he is another.
		for from := range c.N {
			if from != 2 && from != 5 {
				other := copied(f)
				other.From = from
				p.opens(t, put(t, other, shared(master, 2, 5)), api.ErrTag)
			}
		}
	}
}

// P23.2, P23.3: a number beyond the config's nodes may be that of a frame: its key tells whether it is opened and answered, but no ping to it ever waits.
func TestBeyondTheConfig(t *testing.T) {
	for _, c := range sizes() {
		for from := c.N; from < nodes8; from++ {
			p := newTwin(t, c, span(0), 0, 1)
			f := p.opens(t, pinged(span(0), from, 0, 5), api.OK)
			if _, e := p.reply(t, f, ordinary()); e != api.OK {
				t.Errorf("Reply to %d of %d: %v", from, c.N, e)
			}
			p.opens(t, pinged(span(1), from, 0, 5), api.ErrTag)
			pong := p.opens(t, ponged(span(0), from, 0, 5, ordinary()), api.OK)
			for _, now := range []int64{-1, 0, 5, end40 + 1} {
				p.takes(t, pong, now, api.ErrArg)
			}
		}
	}
}

// wrongs are frames which are the one that is told, but for something for which no ping or pong is right.
func wrongs(f api.Frame) []api.Frame {
	set := []func(f *api.Frame){
		func(f *api.Frame) { f.Kind = 0 },
		func(f *api.Frame) { f.Kind = 1 },
		func(f *api.Frame) { f.Kind = 5 - f.Kind },
		func(f *api.Frame) { f.Kind = 4 },
		func(f *api.Frame) { f.Kind = -f.Kind },
		func(f *api.Frame) { f.Kind += 16 },
		func(f *api.Frame) { f.Kind += 1 << 32 },
		func(f *api.Frame) { f.From = -1 },
		func(f *api.Frame) { f.From = f.To },
		func(f *api.Frame) { f.From = 8 },
		func(f *api.Frame) { f.From += 16 },
		func(f *api.Frame) { f.From += 1 << 32 },
		func(f *api.Frame) { f.From = math.MinInt },
		func(f *api.Frame) { f.From = math.MaxInt },
		func(f *api.Frame) { f.To = -1 },
		func(f *api.Frame) { f.To = f.From },
		func(f *api.Frame) { f.To = 2 },
		func(f *api.Frame) { f.To = 3 },
		func(f *api.Frame) { f.To = 8 },
		func(f *api.Frame) { f.To += 16 },
		func(f *api.Frame) { f.To += 1 << 32 },
		func(f *api.Frame) { f.To = math.MinInt },
		func(f *api.Frame) { f.To = math.MaxInt },
		func(f *api.Frame) { f.Round = 1 },
		func(f *api.Frame) { f.Round = -1 },
		func(f *api.Frame) { f.View = 1 },
		func(f *api.Frame) { f.View = math.MinInt },
		func(f *api.Frame) { f.Body = []byte{0} },
		func(f *api.Frame) { f.Tag = nil },
		func(f *api.Frame) { f.Tag = f.Tag[:7] },
		func(f *api.Frame) { f.Tag = append(f.Tag, 0) },
		func(f *api.Frame) { f.Stamp = -1 },
		func(f *api.Frame) { f.Stamp = end40 + 1 },
		func(f *api.Frame) { f.Stamp = math.MaxInt64 },
		func(f *api.Frame) { f.Epoch = -1 },
		func(f *api.Frame) { f.Epoch = epochs + 1 },
		func(f *api.Frame) { f.Start = -1 },
		func(f *api.Frame) { f.Start = rounds20 + 1 },
		func(f *api.Frame) { f.Index = -1 },
		func(f *api.Frame) { f.Index = 257 },
		func(f *api.Frame) { f.Key = make([]byte, key16-1) },
		func(f *api.Frame) { f.Key = make([]byte, key16+1) },
	}
	all := []api.Frame{{}}
	for _, s := range set {
		wrong := copied(f)
		s(&wrong)
		all = append(all, wrong)
	}
	return all
}

// P23.2: frames to which there is no reply; what there is to say may be right or not.
func TestReplyWrongFrames(t *testing.T) {
	a, b := couple(t)
	f := b.opens(t, a.asks(t, 1, 1000), api.OK)
	pong := b.answers(t, a.asks(t, 1, 1000), ordinary())
	all := append(wrongs(f), got(t, pong), got(t, a.asks(t, 2, 1000)), got(t, b.asks(t, 0, 1000)), got(t, b.asks(t, 2, 1000)))
	for _, more := range []func(f *api.Frame){
		func(f *api.Frame) { f.Stamp = 1 },
		func(f *api.Frame) { f.Epoch = 1 },
		func(f *api.Frame) { f.Start = 1 },
		func(f *api.Frame) { f.Index = 1 },
		func(f *api.Frame) { f.Key = span(1) },
		func(f *api.Frame) { f.Key = []byte{0} },
	} {
		wrong := copied(f)
		more(&wrong)
		all = append(all, wrong)
	}
	// Right frames to this node, but no pings; a data frame's To is 0, as the other node's number.
	all = append(all, got(t, a.answers(t, b.asks(t, 0, 1000), ordinary())))
	data := got(t, put(t, api.Frame{Kind: api.FData, From: 1, Epoch: 1, Round: 2, Key: span(9)}, shared(span(0), 0, 1)))
	if _, e := a.reply(t, data, ordinary()); e != api.ErrArg {
		t.Errorf("Reply(%v): %v", data, e)
	}
	for _, wrong := range all {
		for _, s := range []said{ordinary(), {-1, -1, -1, -1, nil}} {
			if _, e := b.reply(t, wrong, s); e != api.ErrArg {
				t.Errorf("Reply(%v, %v): %v", wrong, s, e)
			}
		}
	}
	if _, e := b.reply(t, f, ordinary()); e != api.OK {
		t.Errorf("Reply(%v): %v", f, e)
	}
}

// P23.2: what can be in a pong, and what can't: each number at its ends and beyond, and keys of other lengths.
func TestReplyEnds(t *testing.T) {
	a, b := couple(t)
	ping := a.asks(t, 1, 1000)
	f := b.opens(t, ping, api.OK)
	for _, s := range others() {
		q := got(t, b.answers(t, ping, s))
		if q.Stamp != s.stamp || q.Epoch != s.epoch || q.Start != s.start || q.Index != s.index || !bytes.Equal(q.Key, s.key) || q.From != 1 || q.To != 0 || q.Nonce != 7<<32+1 {
			t.Errorf("Reply(%v): %v", s, q)
		}
	}
	beyond := func(most int64) []int64 {
		return []int64{-1, -2, most + 1, most + 2, 2*most + 2, -most, 1 << 48, 1<<48 + 1, math.MinInt64, math.MinInt64 + 1, math.MaxInt64}
	}
	var all []said
	for _, n := range beyond(end40) {
		all = append(all, said{n, 3, 4, 5, span(1)})
	}
	for _, n := range beyond(epochs) {
		all = append(all, said{1500, int(n), 4, 5, span(1)})
	}
	for _, n := range beyond(rounds20) {
		all = append(all, said{1500, 3, int(n), 5, span(1)})
	}
	for _, n := range beyond(256) {
		all = append(all, said{1500, 3, 4, int(n), span(1)})
	}
	for _, key := range noKeys() {
		all = append(all, said{1500, 3, 4, 5, key})
	}
	for _, s := range all {
		if _, e := b.reply(t, f, s); e != api.ErrArg {
			t.Errorf("Reply(%v): %v", s, e)
		}
	}
}

// P23.2: any nonce is answered, as often as one likes, whoever waits for whom.
func TestReplyNonces(t *testing.T) {
	_, b := couple(t)
	b.asks(t, 0, 1000)
	for _, nonce := range []uint64{0, 1, 7<<32 + 1, 9<<32 + 1, 1 << 63, math.MaxUint64} {
		ping := pinged(span(0), 0, 1, nonce)
		first := b.answers(t, ping, ordinary())
		if q := got(t, first); q.Nonce != nonce {
			t.Errorf("%v to nonce %x", q, nonce)
		}
		if again := b.answers(t, ping, ordinary()); !bytes.Equal(again, first) {
			t.Errorf("%x, then %x", first, again)
		}
	}
}

// P23.3: frames that are no right pong of a node to this one, whatever time it is; what waits goes on waiting.
func TestHearWrongFrames(t *testing.T) {
	a, b := couple(t)
	ping := a.asks(t, 1, 1000)
	f := a.opens(t, b.answers(t, ping, ordinary()), api.OK)
	back := b.asks(t, 0, 1000)
	for _, wrong := range append(wrongs(f), got(t, ping), got(t, back), got(t, a.answers(t, back, ordinary()))) {
		for _, now := range []int64{1100, 999, 1401, -1} {
			a.takes(t, wrong, now, api.ErrArg)
		}
	}
	// A data frame's To is 0, but it is no pong.
	a.takes(t, got(t, put(t, api.Frame{Kind: api.FData, From: 1, Epoch: 1, Round: 2, Key: span(9)}, shared(span(0), 0, 1))), 1100, api.ErrArg)
	a.takes(t, f, 1100, api.OK)
}

// P23.3: what can be in a pong is heard, each number at its ends.
func TestHearEnds(t *testing.T) {
	a, b := couple(t)
	for _, s := range others() {
		x := a.hears(t, b.answers(t, a.asks(t, 1, 1000), s), 1100, api.OK)
		want := Answer{1, api.Ival{Lo: s.stamp - 1100, Hi: s.stamp - 994}, s.epoch, s.start, s.index, s.key}
		if !alike(x, want) {
			t.Errorf("%v, want %v", x, want)
		}
	}
}

// P23.3: another nonce than that of the ping that waits; it waits on.
func TestHearOtherNonces(t *testing.T) {
	a, b := couple(t)
	right := b.answers(t, a.asks(t, 1, 1000), ordinary())
	f := a.opens(t, right, api.OK)
	for _, nonce := range []uint64{0, 1, 7 << 32, 7<<32 + 2, 6<<32 + 1, 8<<32 + 1, 9<<32 + 1, math.MaxUint64} {
		for _, now := range []int64{1000, 1100, 1400, 1401, 999, end40} {
			a.hears(t, ponged(span(0), 1, 0, nonce, ordinary()), now, api.ErrNone)
		}
	}
	for bit := range 64 {
		other := copied(f)
		other.Nonce ^= 1 << bit
		a.takes(t, other, 1100, api.ErrNone)
	}
	a.hears(t, right, 1100, api.OK)
}

// P23.3: a node that was not asked, with any nonce: 0, that of another's ping, one that is to come.
func TestHearNotAsked(t *testing.T) {
	c := usual()
	a := newTwin(t, c, span(0), 0, 7)
	for _, nonce := range []uint64{0, 1, 7 << 32, 7<<32 + 1, 7<<32 + 2} {
		for from := 1; from < 3; from++ {
			a.hears(t, ponged(span(0), from, 0, nonce, ordinary()), 0, api.ErrNone)
		}
	}
	a.asks(t, 1, 1000)
	for _, nonce := range []uint64{0, 7 << 32, 7<<32 + 1, 7<<32 + 2} {
		a.hears(t, ponged(span(0), 2, 0, nonce, ordinary()), 1100, api.ErrNone)
	}
	a.hears(t, ponged(span(0), 1, 0, 7<<32+1, ordinary()), 1100, api.OK)
}

// P23.3: each pong is heard once.
func TestHearTwice(t *testing.T) {
	a, b := couple(t)
	ping := a.asks(t, 1, 1000)
	pong := b.answers(t, ping, ordinary())
	more := ordinary()
	more.stamp++
	second := b.answers(t, ping, more)
	a.hears(t, pong, 1100, api.OK)
	for _, now := range []int64{999, 1000, 1100, 1101, 1400, 1401, end40} {
		a.hears(t, pong, now, api.ErrNone)
		a.hears(t, second, now, api.ErrNone)
	}
}

// P23.3: when a pong is heard: ahead of Ask, at the same time, up to just Window behind it, and at times that can't be. Late ones wait no more.
func TestHearWhen(t *testing.T) {
	for n, c := range sizes() {
		if c.N < 2 {
			continue
		}
		window := int64(c.Window)
		for _, asked := range []int64{0, 1, 1000, 1 << 33, end40 - window - 5, end40 - window, end40 - 1, end40} {
			for _, gone := range []int64{-end40, -1000, -2, -1, 0, 1, window / 2, window - 1, window, window + 1, window + 2, 2 * window, end40} {
				a, b := newTwin(t, c, span(0), 1, n), newTwin(t, c, span(0), 0, n)
				pong := b.answers(t, a.asks(t, 0, asked), ordinary())
				now := asked + gone
				want := api.OK
				switch {
				case now < 0 || now > end40:
					want = api.ErrArg
				case gone < 0:
					want = api.ErrNone
				case gone > window:
					want = api.ErrLate
				}
				a.hears(t, pong, now, want)
				switch want {
				case api.OK, api.ErrLate:
					a.hears(t, pong, now, api.ErrNone)
					a.hears(t, pong, asked, api.ErrNone)
				default:
					a.hears(t, pong, asked, api.OK)
				}
			}
			a, b := newTwin(t, c, span(0), 1, n), newTwin(t, c, span(0), 0, n)
			pong := b.answers(t, a.asks(t, 0, asked), ordinary())
			for _, now := range []int64{-1, -2, end40 + 1, end40 + 2, math.MinInt64, math.MaxInt64} {
				a.hears(t, pong, now, api.ErrArg)
			}
			a.hears(t, pong, asked, api.OK)
		}
	}
}

// P23.3: who comes too late takes no other one's place.
func TestLateAlone(t *testing.T) {
	c := usual()
	a := newTwin(t, c, span(0), 0, 7)
	b, d := newTwin(t, c, span(0), 1, 9), newTwin(t, c, span(0), 2, 9)
	late := b.answers(t, a.asks(t, 1, 1000), ordinary())
	good := d.answers(t, a.asks(t, 2, 1300), ordinary())
	a.hears(t, late, 1401, api.ErrLate)
	a.hears(t, good, 1401, api.OK)
	next := b.answers(t, a.asks(t, 1, 1402), ordinary())
	a.hears(t, late, 1403, api.ErrNone)
	a.hears(t, next, 1403, api.OK)
}

// P2: where several errors apply, the first that the chapter names.
func TestOrderOfErrors(t *testing.T) {
	a, b := couple(t)
	f := a.opens(t, b.answers(t, a.asks(t, 1, 1000), ordinary()), api.OK)
	other := copied(f)
	other.Nonce++
	// Another nonce, and too late: ErrNone, and the ping waits on.
	a.takes(t, other, 5000, api.ErrNone)
	// A time that can't be, and another nonce.
	a.takes(t, other, -1, api.ErrArg)
	a.takes(t, other, end40+1, api.ErrArg)
	// A time that can't be, and nobody was asked.
	b.takes(t, got(t, ponged(span(0), 0, 1, 5, ordinary())), -1, api.ErrArg)
	a.takes(t, f, 1400, api.OK)
	// A sum that is not right, to another, with another tag.
	spoilt := pinged(span(1), 0, 2, 5)
	spoilt[2] ^= 1
	b.opens(t, spoilt, api.ErrSum)
	// To another, with another tag.
	b.opens(t, pinged(span(1), 0, 2, 5), api.ErrArg)
}

// clock is one that goes on beat by beat.
type clock struct {
	now   int64
	drift func() int64
}

func (c *clock) beat() {
	c.now += 100 + c.drift()
}

// hearing is one question and its answer, by clocks that go on by themselves: the pong is made behind some beats, and heard behind some more.
func hearing(t *testing.T, c api.Config, own *clock, other *clock, ahead int, behind int) (Answer, bool) {
	t.Helper()
	a, _ := New(c, span(0), 0, 1)
	b, _ := New(c, span(0), 1, 1)
	asked := own.now
	ping, _ := a.Ask(1, asked)
	for range ahead {
		own.beat()
		other.beat()
	}
	f, _ := b.Open(ping)
	pong, _ := b.Reply(f, other.now, 1, 2, 3, span(4))
	for range behind {
		own.beat()
		other.beat()
	}
	q, _ := a.Open(pong)
	answer, e := a.Hear(q, own.now)
	if late := own.now-asked > int64(c.Window); late && e != api.ErrLate || !late && e != api.OK {
		t.Fatalf("heard %d behind Ask: %v", own.now-asked, e)
	}
	return answer, e == api.OK
}

// near checks that the other clock less the own one lies in Off, and tells whether it lies at its ends.
func near(t *testing.T, own int64, other int64, a Answer) (bool, bool) {
	t.Helper()
	off := other - own
	if off < a.Off.Lo || off > a.Off.Hi || !ival.Holds(a.Off, off) {
		t.Fatalf("own %d, other %d: %d is not in %v", own, other, off, a.Off)
	}
	return off == a.Off.Lo, off == a.Off.Hi
}

// P23.5: clocks of any drift, a pong that is made at any time between: what is heard is so.
func TestNear(t *testing.T) {
	random := rand.New(rand.NewSource(5))
	for _, c := range sizes() {
		if c.N < 2 {
			continue
		}
		d := int64(c.Rho + c.Slew)
		drifts := []func() int64{
			func() int64 { return 0 },
			func() int64 { return d },
			func() int64 { return -d },
			func() int64 { return random.Int63n(2*d+1) - d },
			func() int64 { return d * (2*random.Int63n(2) - 1) },
		}
		met, least, most := 0, 0, 0
		for turn := range 500 {
			own := &clock{random.Int63n(1 << 30), drifts[turn%5]}
			other := &clock{random.Int63n(1 << 30), drifts[turn/5%5]}
			beats := random.Intn(c.Window/100 + 1)
			ahead := []int{0, beats, random.Intn(beats + 1)}[random.Intn(3)]
			answer, heard := hearing(t, c, own, other, ahead, beats-ahead)
			if !heard {
				continue
			}
			atLo, atHi := near(t, own.now, other.now, answer)
			if atLo {
				least++
			}
			if atHi {
				most++
			}
			met++
		}
		if met < 300 || least < 50 || most < 3 {
			t.Errorf("%+v: %d were heard, %d at the least, %d at the most", c, met, least, most)
		}
	}
}

// slewing is a clock of package osc, whose hardware drifts by Rho, and which owes.
type slewing struct {
	clock *osc.Clock
	c     api.Config
}

func newSlewing(t *testing.T, c api.Config, at int64, owes int64) slewing {
	t.Helper()
	k, e := osc.New(c.Slew)
	if e != api.OK || k.Set(at) != api.OK || k.Adjust(owes) != api.OK {
		t.Fatalf("osc.New(%d): %v", c.Slew, e)
	}
	return slewing{k, c}
}

// beat goes on by a beat, and tells by how much more than Beat.
func (s slewing) beat(drift int64) int64 {
	was := s.clock.Now()
	s.clock.Step(100 + drift)
	return s.clock.Now() - was - 100
}

// P23.5: clocks of package osc that drift by Rho, and are corrected by Slew.
func TestNearOsc(t *testing.T) {
	random := rand.New(rand.NewSource(6))
	for _, c := range sizes() {
		if c.N < 2 {
			continue
		}
		rho := int64(c.Rho)
		for turn := range 200 {
			sign := int64(1 - 2*(turn%2))
			one, two := newSlewing(t, c, random.Int63n(1<<30), -sign*1000000), newSlewing(t, c, random.Int63n(1<<30), sign*1000000)
			own := &clock{one.clock.Now(), func() int64 { return one.beat(-sign * rho) }}
			other := &clock{two.clock.Now(), func() int64 { return two.beat(sign * rho) }}
			if turn%3 == 0 {
				own.drift = func() int64 { return one.beat(random.Int63n(2*rho+1) - rho) }
			}
			beats := random.Intn(c.Window/100 + 1)
			ahead := random.Intn(beats + 1)
			if answer, heard := hearing(t, c, own, other, ahead, beats-ahead); heard {
				near(t, one.clock.Now(), two.clock.Now(), answer)
			}
		}
	}
}

// P23.3: at the end of time Off is told as it is, though it is no interval that is right.
func TestOffAtTheEnd(t *testing.T) {
	a, b := couple(t)
	s := ordinary()
	s.stamp = end40
	x := a.hears(t, b.answers(t, a.asks(t, 1, 0), s), 400, api.OK)
	if x.Off != (api.Ival{Lo: end40 - 400, Hi: end40 + 24}) {
		t.Errorf("%v", x)
	}
	x = a.hears(t, b.answers(t, a.asks(t, 1, 0), s), 0, api.OK)
	if x.Off != (api.Ival{Lo: end40, Hi: end40}) {
		t.Errorf("%v", x)
	}
	s.stamp = 0
	x = a.hears(t, b.answers(t, a.asks(t, 1, end40-400), s), end40, api.OK)
	if x.Off != (api.Ival{Lo: -end40, Hi: 424 - end40}) {
		t.Errorf("%v", x)
	}
}

// spoil changes all bytes of lists, and the room behind them.
func spoil(lists ...[]byte) {
	for _, b := range lists {
		b = b[:cap(b)]
		for i := range b {
			b[i] ^= 0xA5
		}
	}
}

// P4: the master may be changed behind New, and is not changed by it.
func TestMasterNotKept(t *testing.T) {
	for i := range 3 {
		master := span(0)
		p := newTwin(t, usual(), master, i, 5)
		if !bytes.Equal(master[:cap(master)], append(span(0), make([]byte, key16)...)) {
			t.Errorf("%x has become the master", master[:cap(master)])
		}
		spoil(master)
		b := newTwin(t, usual(), span(0), (i+1)%3, 5)
		pong := b.answers(t, p.asks(t, (i+1)%3, 100), ordinary())
		p.hears(t, pong, 200, api.OK)
		p.answers(t, b.asks(t, i, 100), ordinary())
	}
}

// P4: what is told is new memory; what is handed in may be changed behind the call.
func TestNewMemory(t *testing.T) {
	a, b := couple(t)
	ping := a.asks(t, 1, 1000)
	kept := slices.Clone(ping)
	f, _ := b.e.Open(ping)
	was := copied(f)
	spoil(ping)
	if !alike(f, was) {
		t.Errorf("Open: %v has become %v", was, f)
	}
	spoil(f.Tag, f.Key, f.Body)
	f = b.opens(t, kept, api.OK)
	s := ordinary()
	pong, _ := b.e.Reply(f, s.stamp, s.epoch, s.start, s.index, s.key)
	keptPong := slices.Clone(pong)
	spoil(f.Tag, s.key)
	if !bytes.Equal(pong, keptPong) {
		t.Errorf("Reply: %x has become %x", keptPong, pong)
	}
	spoil(pong)
	q := a.opens(t, keptPong, api.OK)
	wasQ := copied(q)
	answer := a.takes(t, q, 1100, api.OK)
	spoil(answer.Key)
	if !alike(q, wasQ) {
		t.Errorf("Hear: %v has become %v", wasQ, q)
	}
	b.answers(t, a.asks(t, 1, 2000), ordinary())
	q = a.opens(t, b.answers(t, a.asks(t, 1, 2000), ordinary()), api.OK)
	answer = a.takes(t, q, 2100, api.OK)
	wasAnswer := answer
	wasAnswer.Key = slices.Clone(answer.Key)
	spoil(q.Key, q.Tag)
	if !alike(answer, wasAnswer) {
		t.Errorf("Hear: %v has become %v", wasAnswer, answer)
	}
}

// P4: what is refused changes neither frames nor lists, and a frame's lists may be parts of others.
func TestHandedIn(t *testing.T) {
	a, b := couple(t)
	f := b.opens(t, a.asks(t, 1, 1000), api.OK)
	room := make([]byte, 64)
	for i := range room {
		room[i] = byte(i)
	}
	was := slices.Clone(room)
	f.Tag = room[8:16]
	s := ordinary()
	s.key = room[20:36]
	pong, e := b.reply(t, f, s)
	if e != api.OK {
		t.Fatal(e)
	}
	q := a.opens(t, pong, api.OK)
	q.Key, q.Tag = room[20:36], room[8:16]
	a.takes(t, q, 1100, api.OK)
	a.takes(t, q, 1100, api.ErrNone)
	b.reply(t, f, said{-1, 0, 0, 0, room[1:17]})
	b.open(t, room[:40])
	if !bytes.Equal(room, was) {
		t.Errorf("%x has become %x", was, room)
	}
}

// P5: echoes side by side, and one that is copied, go their own ways.
func TestSideBySide(t *testing.T) {
	a, b := couple(t)
	same := newTwin(t, usual(), span(0), 0, 7)
	ping := a.asks(t, 1, 1000)
	if same.e.Asked(1) {
		t.Error("a ping of one waits in the other")
	}
	pong := b.answers(t, ping, ordinary())
	same.hears(t, pong, 1100, api.ErrNone)
	twice := *a.e
	if _, e := twice.Hear(got(t, pong), 1100); e != api.OK || twice.Asked(1) || !a.e.Asked(1) {
		t.Errorf("a copied echo hears: %v", e)
	}
	twice.Ask(2, 1000)
	twice.Forget()
	a.hears(t, pong, 1100, api.OK)
	if again := same.asks(t, 1, 1000); !bytes.Equal(again, ping) {
		t.Errorf("%x, then %x", ping, again)
	}
}

// P23.4, P1: a nil echo, and one that no call made, again and again.
func TestUnmade(t *testing.T) {
	refused, _ := New(usual(), nil, 0, 0)
	ping, pong := pinged(span(0), 1, 0, 5), ponged(span(0), 1, 0, 5, ordinary())
	frames := append([]api.Frame{got(t, ping), got(t, pong)}, wrongs(got(t, ping))...)
	for at, e := range []*Echo{nil, {}, new(Echo), refused} {
		for range 2 {
			for _, n := range []int{-1, 0, 1, 2, 3, 8, math.MinInt, math.MaxInt} {
				if b, errno := e.Ask(n, int64(n)); len(b) != 0 || errno != api.ErrZero {
					t.Errorf("%d: Ask(%d) = %x, %v", at, n, b, errno)
				}
				for _, f := range frames {
					for _, key := range [][]byte{nil, span(1)} {
						if b, errno := e.Reply(f, int64(n), n, n, n, key); len(b) != 0 || errno != api.ErrZero {
							t.Errorf("%d: Reply(%v, %d) = %x, %v", at, f, n, b, errno)
						}
					}
					if a, errno := e.Hear(f, int64(n)); !alike(a, Answer{}) || errno != api.ErrZero {
						t.Errorf("%d: Hear(%v, %d) = %v, %v", at, f, n, a, errno)
					}
				}
				if e.Asked(n) {
					t.Errorf("%d: Asked(%d)", at, n)
				}
			}
			for _, b := range [][]byte{nil, {1}, ping, pong, make([]byte, 100)} {
				if f, errno := e.Open(b); !alike(f, api.Frame{}) || errno != api.ErrZero {
					t.Errorf("%d: Open(%x) = %v, %v", at, b, f, errno)
				}
			}
			e.Forget()
		}
	}
}

// P1, P6: the greatest and the least numbers, and those about the limits, in each place of each call.
func TestWildNumbers(t *testing.T) {
	wild := []int{math.MinInt, math.MinInt + 1, math.MinInt32, -end40, -65536, -2, -1, 0, 1, 2, 3, 7, 8, 15, 16, 256, 257, 65535, 65536, rounds20, rounds20 + 1, 1<<32 + 1, end40, end40 + 1, math.MaxInt32, math.MaxInt - 1, math.MaxInt}
	for _, i := range wild {
		for _, incarnation := range wild {
			e, errno := New(usual(), span(0), i, incarnation)
			if right := i >= 0 && i < 3 && incarnation >= 0 && incarnation <= epochs; (e != nil) != right || (errno == api.OK) != right || !right && errno != api.ErrArg {
				t.Fatalf("New(%d, %d): %v", i, incarnation, errno)
			}
		}
	}
	a, b := couple(t)
	for _, n := range wild {
		for _, m := range wild {
			a.ask(t, n, int64(m))
			ping := got(t, a.asks(t, 1, 1000))
			b.reply(t, ping, said{int64(n), m, n, m, span(2)})
			b.reply(t, ping, said{int64(n), n, m, m, span(2)})
			ping.From, ping.Kind = n, m
			b.reply(t, ping, ordinary())
			ping.From, ping.Kind, ping.To, ping.Nonce = 0, 2, n, uint64(m)
			b.reply(t, ping, ordinary())
			pong := got(t, ponged(span(0), 1, 0, 7<<32+uint64(a.w.count), ordinary()))
			for _, set := range []func(f *api.Frame, n int){
				func(f *api.Frame, n int) { f.Kind = n },
				func(f *api.Frame, n int) { f.From = n },
				func(f *api.Frame, n int) { f.To = n },
				func(f *api.Frame, n int) { f.Nonce = uint64(n) },
				func(f *api.Frame, n int) { f.Stamp = int64(n) },
				func(f *api.Frame, n int) { f.Epoch = n },
				func(f *api.Frame, n int) { f.Start = n },
				func(f *api.Frame, n int) { f.Index = n },
				func(f *api.Frame, n int) { f.Round = n },
				func(f *api.Frame, n int) { f.View = n },
			} {
				f := copied(pong)
				set(&f, n)
				a.hear(t, f, int64(m))
			}
			a.hear(t, pong, int64(n))
		}
	}
}

// P1: any bytes are opened, or refused as the words say.
func TestWildBytes(t *testing.T) {
	random := rand.New(rand.NewSource(7))
	_, b := couple(t)
	met := map[api.Errno]int{}
	for range 4000 {
		bytes := make([]byte, random.Intn(100))
		random.Read(bytes)
		if len(bytes) > 0 {
			bytes[0] = byte(16*(1+random.Intn(3)) + random.Intn(8))
		}
		if random.Intn(2) == 0 {
			n := []int{18, 47}[random.Intn(2)]
			bytes = append(bytes, make([]byte, n)...)[:n]
			bytes[0] = byte(16*(2+n/40) + 2*random.Intn(4))
			bytes[1] = bytes[1]&15 | byte(16*random.Intn(4))
		}
		_, e := b.open(t, fixed(bytes))
		met[e]++
		_, e = b.open(t, bytes)
		met[e]++
	}
	for _, e := range []api.Errno{api.ErrShort, api.ErrSum, api.ErrForm, api.ErrArg, api.ErrTag} {
		if met[e] < 10 {
			t.Errorf("%v was met %d times: %v", e, met[e], met)
		}
	}
}

// bus is three nodes, and all that they said, in the hands of chance.
type bus struct {
	nodes []twin
	clock []int64
	sent  [][]byte
	met   map[api.Errno]int
}

// act does one act drawn by chance.
func (s *bus) act(t testing.TB, random *rand.Rand) {
	t.Helper()
	i := random.Intn(len(s.nodes))
	p, c := s.nodes[i], s.nodes[i].w.c
	switch random.Intn(12) {
	case 0:
		s.clock[i] += random.Int63n(int64(2 * c.Window))
	case 1:
		s.clock[i] = max(s.clock[i]-random.Int63n(50), -1)
	case 2:
		if random.Intn(6) == 0 {
			p.forget(t)
		}
	case 3, 4, 5:
		b, e := p.ask(t, random.Intn(c.N+2)-1, s.clock[i])
		s.note(b, e)
	default:
		if len(s.sent) == 0 {
			return
		}
		b := s.sent[max(0, len(s.sent)-1-random.Intn(8))]
		f, e := p.open(t, b)
		if random.Intn(4) == 0 {
			f = got(t, b)
		}
		s.note(nil, e)
		if f.Kind == api.FPing {
			b, e := p.reply(t, f, said{s.clock[i], random.Intn(5), random.Intn(50), random.Intn(9), span(byte(random.Intn(9)))})
			s.note(b, e)
			return
		}
		_, e = p.hear(t, f, s.clock[i]+random.Int63n(20)-5)
		s.note(nil, e)
	}
}

// note counts an error, and keeps what was sent.
func (s *bus) note(b []byte, e api.Errno) {
	s.met[e]++
	if len(b) > 0 {
		s.sent = append(s.sent, b)
	}
}

// P23.1 to P23.3: acts in turn, drawn by chance, held against the chapter's words behind each.
func TestActsInTurn(t *testing.T) {
	random := rand.New(rand.NewSource(23))
	met := map[api.Errno]int{}
	for _, c := range sizes() {
		for turn := range 6 {
			s := &bus{met: met}
			for i := range c.N {
				s.nodes = append(s.nodes, newTwin(t, c, span(byte(turn)), i, random.Intn(epochs+1)))
				s.clock = append(s.clock, random.Int63n(1000))
			}
			for range 250 {
				s.act(t, random)
			}
		}
	}
	for _, e := range []api.Errno{api.OK, api.ErrArg, api.ErrNone, api.ErrLate} {
		if met[e] < 50 {
			t.Errorf("%v was met %d times: %v", e, met[e], met)
		}
	}
}

// A question is answered as it stood when its answer was asked for, whatever its place holds by then.
func TestAnswerOfItsOwn(t *testing.T) {
	place := question{5, 1000}
	answer := place.answer
	place = question{}
	f := got(t, ponged(span(0), 1, 0, 5, ordinary()))
	x, e := answer(usual(), f, 1100)
	if e != api.OK || x.Off != (api.Ival{Lo: 400, Hi: 506}) {
		t.Errorf("%v, %v", x, e)
	}
}

// P23.1 to P23.4, P1: any numbers and bytes that a fuzzer wants, as they are, and brought to where an echo is.
func FuzzAll(f *testing.F) {
	f.Add(int64(1), 0, []byte("0123456789abcdef"), 1, 5, 0, int64(1000), int64(1100), []byte("pong"))
	f.Add(int64(2), 2, make([]byte, 16), 7, 65535, 3, int64(end40-5), int64(end40), make([]byte, 21))
	f.Add(int64(3), 5, []byte(nil), -1, -1, -1, int64(-1), int64(-1), []byte(nil))
	f.Add(int64(4), 9, make([]byte, 17), math.MinInt, math.MaxInt, math.MinInt, int64(math.MinInt64), int64(math.MaxInt64), pinged(span(0), 1, 0, 3))
	f.Fuzz(func(t *testing.T, seed int64, size int, master []byte, i int, incarnation int, to int, asked int64, now int64, b []byte) {
		configs := sizes()
		c := configs[int(uint(size)%uint(len(configs)))]
		e, errno := New(c, master, i, incarnation)
		right := len(master) == key16 && i >= 0 && i < c.N && incarnation >= 0 && incarnation <= epochs
		if (errno == api.OK) != right || (e != nil) != right {
			t.Fatalf("New(%+v, %x, %d, %d) = %v, %v", c, master, i, incarnation, e != nil, errno)
		}
		master = append(slices.Clone(master), make([]byte, key16)...)[:key16]
		random := rand.New(rand.NewSource(seed))
		s := &bus{met: map[api.Errno]int{}}
		for i := range c.N {
			s.nodes = append(s.nodes, newTwin(t, c, master, i, int(uint(incarnation)%(epochs+1))))
			s.clock = append(s.clock, min(max(asked, 0), end40))
		}
		p := s.nodes[int(uint(i)%uint(c.N))]
		ping, _ := p.ask(t, to, asked)
		p.open(t, b)
		p.open(t, fixed(b))
		for _, q := range s.nodes {
			if f, e := q.open(t, ping); e == api.OK {
				pong, _ := q.reply(t, f, said{now, size, i, to, master})
				p.open(t, pong)
			}
			p.hear(t, api.Frame{Kind: api.FPong, From: q.w.i, To: p.w.i, Nonce: p.w.waits[q.w.i].nonce, Stamp: asked, Epoch: to, Start: size, Index: i, Key: master, Tag: make([]byte, 8)}, now)
		}
		for range 20 {
			s.act(t, random)
		}
	})
}
