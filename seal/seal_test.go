package seal

import (
	"bytes"
	stdhmac "crypto/hmac"
	"crypto/sha256"
	"encoding/hex"
	"errors"
	"fmt"
	"math"
	"slices"
	"testing"

	"carillon/api"
	"carillon/crc"
	"carillon/frame"
	"carillon/hmac"
	"carillon/kdf"
)

// text is n bytes that count up from the first.
func text(n int, first byte) []byte {
	b := make([]byte, n)
	for i := range b {
		b[i] = first + byte(i)
	}
	return b
}

// right is the key that frames are sealed with, wrong one that they are not.
func right() []byte { return text(16, 0x40) }
func wrong() []byte { return text(16, 0x41) }

func data() api.Frame {
	return api.Frame{Kind: api.FData, From: 3, Epoch: 0x1234, Round: 0xABCDE, View: 0x87, Index: 0x100, Key: text(16, 0x10), Body: []byte("hi")}
}

func none() api.Frame {
	return api.Frame{Kind: api.FData, Key: make([]byte, 16)}
}

func ping() api.Frame {
	return api.Frame{Kind: api.FPing, From: 1, To: 2, Nonce: 0x0102030405060708}
}

func pong() api.Frame {
	return api.Frame{Kind: api.FPong, From: 7, To: 0, Nonce: 0xF1F2F3F4F5F6F7F8, Stamp: 1 << 40, Epoch: 0xFFFF, Start: 1 << 20, Index: 0x42, Key: text(16, 0x10)}
}

// each is a frame of each kind, without a tag.
func each() []api.Frame {
	full := data()
	full.Body = text(16, 0x81)
	return []api.Frame{data(), ping(), pong(), none(), full}
}

// bad are frames whose core is not right, each for another fault.
func bad() []api.Frame {
	var all []api.Frame
	add := func(f api.Frame, change func(f *api.Frame)) {
		change(&f)
		all = append(all, f)
	}
	add(api.Frame{}, func(f *api.Frame) {})
	for _, f := range []api.Frame{data(), ping(), pong()} {
		for _, kind := range []int{0, 4, -1, 17, math.MaxInt, math.MinInt} {
			add(f, func(f *api.Frame) { f.Kind = kind })
		}
		for _, from := range []int{-1, 8, math.MaxInt, math.MinInt} {
			add(f, func(f *api.Frame) { f.From = from })
		}
		add(f, func(f *api.Frame) { f.To = 8 })
		add(f, func(f *api.Frame) { f.Epoch = 65536 })
		add(f, func(f *api.Frame) { f.Start = 1<<20 + 1 })
		add(f, func(f *api.Frame) { f.Round = 1<<20 + 1 })
		add(f, func(f *api.Frame) { f.Stamp = 1<<40 + 1 })
		add(f, func(f *api.Frame) { f.View = 256 })
		add(f, func(f *api.Frame) { f.Index = 257 })
		add(f, func(f *api.Frame) { f.Key = text(15, 1) })
		add(f, func(f *api.Frame) { f.Key = text(17, 1) })
		add(f, func(f *api.Frame) { f.Body = text(17, 1) })
	}
	add(data(), func(f *api.Frame) { f.Nonce = 1 })
	add(data(), func(f *api.Frame) { f.Key = nil })
	add(ping(), func(f *api.Frame) { f.To = f.From })
	add(pong(), func(f *api.Frame) { f.To = f.From })
	add(ping(), func(f *api.Frame) { f.Key = text(16, 1) })
	add(pong(), func(f *api.Frame) { f.Stamp, f.Body = math.MinInt64, []byte{1} })
	return all
}

// noKeys are lists that are no key: none, too short, too long. Those beside the right key would have its tags if lengths were not looked at, as noughts behind a key change none.
func noKeys() [][]byte {
	all := [][]byte{nil, {}, text(24, 1)[:0], right()[:15], append(right(), 0), append(right(), right()...), make([]byte, 1000), make([]byte, 1001), make([]byte, 1<<20+1)}
	for n := range 70 {
		if n != 16 {
			all = append(all, text(n, 0x40))
		}
	}
	return all
}

// copied is a frame that shares no memory with f.
func copied(f api.Frame) api.Frame {
	f.Key, f.Body, f.Tag = slices.Clone(f.Key), slices.Clone(f.Body), slices.Clone(f.Tag)
	return f
}

// alike tells whether two frames are the same, apart from the program: as texts, in which nil and empty lists are no different.
func alike(f api.Frame, g api.Frame) bool {
	return fmt.Sprintf("%v", f) == fmt.Sprintf("%v", g)
}

// reckoned is the whole tag of a frame, by the layers below.
func reckoned(t *testing.T, f api.Frame, key []byte) []byte {
	t.Helper()
	mac, e := kdf.Mac(key)
	if e != api.OK {
		t.Fatalf("kdf.Mac(%x): %d", key, e)
	}
	core, e := frame.Core(f)
	if e != api.OK {
		t.Fatalf("frame.Core(%v): %d", f, e)
	}
	tag, e := hmac.Of(mac, core)
	if e != api.OK || len(tag) != 32 {
		t.Fatalf("hmac.Of: %x, %d", tag, e)
	}
	if want := library(library(key, []byte("mac\x00\x01"))[:16], core); !bytes.Equal(tag, want) {
		t.Fatalf("the tag of %v is %x, the library's is %x", f, tag, want)
	}
	return tag
}

// library is the library's tag.
func library(key []byte, b []byte) []byte {
	h := stdhmac.New(sha256.New, key)
	h.Write(b)
	return h.Sum(nil)
}

// with is a frame with a tag.
func with(f api.Frame, tag []byte) api.Frame {
	f.Tag = tag
	return f
}

// put is the bytes of a frame, whatever key its tag is of.
func put(t *testing.T, f api.Frame) []byte {
	t.Helper()
	b, e := frame.Put(f)
	if e != api.OK {
		t.Fatalf("frame.Put(%v): %d", f, e)
	}
	return b
}

// seals checks all calls of a frame whose core is right with a right key.
func seals(t *testing.T, f api.Frame, key []byte) {
	t.Helper()
	was, keyWas := copied(f), slices.Clone(key)
	want := reckoned(t, f, key)[:8]
	if tag, e := Tag(f, key); !bytes.Equal(tag, want) || e != api.OK {
		t.Errorf("Tag(%v, %x): %x, %d, want %x", f, key, tag, e, want)
	}
	whole := with(f, want)
	b, e := Seal(f, key)
	if !bytes.Equal(b, put(t, whole)) || e != api.OK {
		t.Errorf("Seal(%v, %x): %x, %d, want %x", f, key, b, e, put(t, whole))
	}
	if Holds(f, key) != bytes.Equal(f.Tag, want) {
		t.Errorf("Holds(%v, %x): %t", f, key, Holds(f, key))
	}
	if !Holds(whole, key) {
		t.Errorf("Holds(%v, %x) is false", whole, key)
	}
	opens(t, b, key, whole)
	if !alike(f, was) || !bytes.Equal(key, keyWas) {
		t.Errorf("%v, %x have become %v, %x", was, keyWas, f, key)
	}
}

// opens checks Open where it is no error.
func opens(t *testing.T, b []byte, key []byte, want api.Frame) {
	t.Helper()
	was, keyWas := slices.Clone(b), slices.Clone(key)
	if f, e := Open(b, key); !alike(f, want) || e != api.OK {
		t.Errorf("Open(%x, %x): %v, %d, want %v", b, key, f, e, want)
	}
	if !bytes.Equal(b, was) || !bytes.Equal(key, keyWas) {
		t.Errorf("%x, %x have become %x, %x", was, keyWas, b, key)
	}
}

// refuses checks Tag and Seal where they are an error, and that no tag holds then.
func refuses(t *testing.T, f api.Frame, key []byte) {
	t.Helper()
	was, keyWas := copied(f), slices.Clone(key)
	if tag, e := Tag(f, key); len(tag) != 0 || e != api.ErrArg {
		t.Errorf("Tag(%v, %x): %x, %d", f, key, tag, e)
	}
	if b, e := Seal(f, key); len(b) != 0 || e != api.ErrArg {
		t.Errorf("Seal(%v, %x): %x, %d", f, key, b, e)
	}
	if Holds(f, key) {
		t.Errorf("Holds(%v, %x)", f, key)
	}
	if !alike(f, was) || !bytes.Equal(key, keyWas) {
		t.Errorf("%v, %x have become %v, %x", was, keyWas, f, key)
	}
}

// fails checks that Open tells an error, and nothing beside it.
func fails(t *testing.T, b []byte, key []byte, want api.Errno) {
	t.Helper()
	was, keyWas := slices.Clone(b), slices.Clone(key)
	if f, e := Open(b, key); !alike(f, api.Frame{}) || e != want {
		t.Errorf("Open(%x, %x): %v, %d, want %d", b, key, f, e, want)
	}
	if !bytes.Equal(b, was) || !bytes.Equal(key, keyWas) {
		t.Errorf("%x, %x have become %x, %x", was, keyWas, b, key)
	}
}

// failsAll checks an error of Open that is told whatever the key is.
func failsAll(t *testing.T, b []byte, want api.Errno) {
	t.Helper()
	for _, key := range [][]byte{right(), wrong(), nil, {}, right()[:15], append(right(), 0)} {
		fails(t, b, key, want)
	}
}

// P10.1, P10.2: the chapter's example.
func TestExample(t *testing.T) {
	b, e := Seal(ping(), right())
	if len(b) != 21 || e != api.OK {
		t.Errorf("Seal: %x, %d", b, e)
	}
	f, e := Open(b, right())
	if !frame.Same(with(f, nil), ping()) || len(f.Tag) != 8 || e != api.OK {
		t.Errorf("Open: %v, %d", f, e)
	}
}

// P10.1: tags and bytes written out: worked out apart from this program.
func TestWrittenOut(t *testing.T) {
	for _, c := range []struct {
		f   api.Frame
		tag string
		all string
	}{
		{data(), "30ae6d0d9bf0a831", "1312340abcde870100101112131415161718191a1b1c1d1e1f1343498573686cdf854188" + "06c7aa"},
		{ping(), "6adea722db95d274", "21201020304050607086adea722db95d2740" + "b50f07"},
		{pong(), "f248c8cea0094ca4", "370f1f2f3f4f5f6f7f8010000000000ffff1000000042101112131415161718191a1b1c1d1e1ff248c8cea0094ca40" + "22ac1b"},
		{none(), "caf4bab5fb039af0", "100000000000000000000000000000000000000000000000000657a5d5afd81cd780" + "f1b31e"},
	} {
		tag, e := Tag(c.f, right())
		if hex.EncodeToString(tag) != c.tag || e != api.OK {
			t.Errorf("Tag(%v): %x, %d, want %s", c.f, tag, e, c.tag)
		}
		b, e := Seal(c.f, right())
		if hex.EncodeToString(b) != c.all || e != api.OK {
			t.Errorf("Seal(%v): %x, %d, want %s", c.f, b, e, c.all)
		}
		opens(t, b, right(), with(c.f, tag))
	}
}

// P10.1, P10.2: frames of each kind with several keys, opened with no other.
func TestKinds(t *testing.T) {
	keys := [][]byte{right(), wrong(), make([]byte, 16), bytes.Repeat([]byte{0xFF}, 16), text(16, 0x10)}
	for _, f := range each() {
		for i, key := range keys {
			seals(t, f, key)
			b, _ := Seal(f, key)
			for j, other := range keys {
				if i != j {
					fails(t, b, other, api.ErrTag)
				}
			}
		}
	}
}

// P10.1, P10.2: bodies of every length that is right.
func TestBodies(t *testing.T) {
	for n := range 17 {
		f := data()
		f.Body = text(n, 0x81)
		seals(t, f, right())
		f.Body = make([]byte, n)
		seals(t, f, right())
	}
}

// P10.1: a key with one bit turned is another one.
func TestKeysOfOneBit(t *testing.T) {
	for _, f := range each() {
		b, _ := Seal(f, right())
		tag, _ := Tag(f, right())
		for i := range 128 {
			key := right()
			key[i/8] ^= 1 << (i % 8)
			seals(t, f, key)
			if Holds(with(f, tag), key) {
				t.Errorf("Holds(%v) with the bit %d of the key turned", f, i)
			}
			fails(t, b, key, api.ErrTag)
		}
	}
}

// P10.1: the tag hangs on every field but itself.
func TestTagOfFields(t *testing.T) {
	changes := []func(f *api.Frame){
		func(f *api.Frame) { f.From ^= 4 },
		func(f *api.Frame) { f.To ^= 1 },
		func(f *api.Frame) { f.Epoch ^= 1 },
		func(f *api.Frame) { f.Start ^= 1 << 20 },
		func(f *api.Frame) { f.Round ^= 1 },
		func(f *api.Frame) { f.Nonce ^= 1 << 63 },
		func(f *api.Frame) { f.Stamp ^= 1 << 40 },
		func(f *api.Frame) { f.View ^= 128 },
		func(f *api.Frame) { f.Index ^= 1 << 8 },
		func(f *api.Frame) { f.Key = append(text(15, 0x10), 0) },
		func(f *api.Frame) { f.Body = []byte("ho") },
		func(f *api.Frame) { f.Body = []byte("hi\x00") },
		func(f *api.Frame) { f.Body = nil },
	}
	for _, f := range []api.Frame{data(), ping(), pong()} {
		tag, _ := Tag(f, right())
		taken := 0
		for _, change := range changes {
			g := copied(f)
			change(&g)
			if _, e := frame.Core(g); e != api.OK || alike(f, g) {
				continue
			}
			taken++
			seals(t, g, right())
			if Holds(with(g, tag), right()) {
				t.Errorf("the tag of %v holds of %v", f, g)
			}
			fails(t, put(t, with(g, tag)), right(), api.ErrTag)
		}
		if taken < 3 {
			t.Errorf("%v was changed in %d ways alone", f, taken)
		}
	}
}

// P10.1: the frame's own tag does not matter to Tag and Seal: none, too short, too long, another frame's, another key's, the right one.
func TestOwnTag(t *testing.T) {
	for _, f := range each() {
		want, _ := Tag(f, right())
		all, _ := Seal(f, right())
		other := ping()
		other.Nonce++
		otherFrame, _ := Tag(other, right())
		otherKey, _ := Tag(f, wrong())
		for _, tag := range [][]byte{nil, {}, {0}, want[:7], make([]byte, 8), append(slices.Clone(want), 0), make([]byte, 1<<20), otherFrame, otherKey, want} {
			g := with(f, slices.Clone(tag))
			seals(t, g, right())
			if got, e := Tag(g, right()); !bytes.Equal(got, want) || e != api.OK {
				t.Errorf("Tag(%v): %x, %d, want %x", g, got, e, want)
			}
			if b, e := Seal(g, right()); !bytes.Equal(b, all) || e != api.OK {
				t.Errorf("Seal(%v): %x, %d, want %x", g, b, e, all)
			}
		}
	}
}

// P10.1: what is no key has no tag, and opens nothing.
func TestNoKeys(t *testing.T) {
	for _, f := range each() {
		tag, _ := Tag(f, right())
		b, _ := Seal(f, right())
		for _, key := range noKeys() {
			refuses(t, f, key)
			refuses(t, with(f, []byte{}), key)
			refuses(t, with(f, make([]byte, 8)), key)
			refuses(t, with(f, tag), key)
			fails(t, b, key, api.ErrTag)
			fails(t, put(t, with(f, make([]byte, 8))), key, api.ErrTag)
		}
	}
}

// P10.1: bytes that are sealed with a tag that HMAC would tell of a key that is none.
func TestTagsOfNoKeys(t *testing.T) {
	for _, f := range each() {
		core, _ := frame.Core(f)
		for _, key := range [][]byte{nil, right()[:15], append(right(), 0), text(17, 1), text(32, 1)} {
			for _, mac := range [][]byte{library(key, []byte("mac\x00\x01"))[:16], key, nil} {
				g := with(f, library(mac, core)[:8])
				refuses(t, g, key)
				fails(t, put(t, g), key, api.ErrTag)
			}
		}
	}
}

// P10.1: tags that are made otherwise: of the key itself, of more bytes, of the tag's other end.
func TestTagsMadeOtherwise(t *testing.T) {
	for _, f := range each() {
		mac, _ := kdf.Mac(right())
		step, _ := kdf.Step(right())
		core, _ := frame.Core(f)
		whole := reckoned(t, f, right())
		for _, tag := range [][]byte{library(right(), core)[:8], library(step, core)[:8], library(mac, crc.Fix(core))[:8], library(mac, append(slices.Clone(core), whole[:8]...))[:8], library(mac, nil)[:8], library(core, mac)[:8], whole[8:16], whole[24:]} {
			if Holds(with(f, tag), right()) {
				t.Errorf("Holds(%v)", with(f, tag))
			}
			fails(t, put(t, with(f, tag)), right(), api.ErrTag)
		}
	}
}

// P10.1, P2: a core that is not right, with a right key and with a wrong one.
func TestBadFrames(t *testing.T) {
	for _, f := range bad() {
		for _, key := range [][]byte{right(), wrong(), nil, {}, right()[:15], append(right(), 0)} {
			for _, tag := range [][]byte{nil, {}, make([]byte, 7), make([]byte, 8), text(8, 1), make([]byte, 9)} {
				refuses(t, with(f, tag), key)
			}
		}
	}
}

// P10.1: a tag holds only if all of it is there and nothing else.
func TestHoldsOfLengths(t *testing.T) {
	for _, f := range each() {
		whole := reckoned(t, f, right())
		for n := range 33 {
			if got := Holds(with(f, whole[:n]), right()); got != (n == 8) {
				t.Errorf("Holds of %d bytes of the tag of %v: %t", n, f, got)
			}
			if n != 8 && Holds(with(f, append(slices.Clone(whole[:min(n, 8)]), make([]byte, max(0, n-8))...)), right()) {
				t.Errorf("Holds of %d bytes of the tag of %v, noughts behind", n, f)
			}
		}
		for _, tag := range [][]byte{nil, {}, whole[1:9], append([]byte{0}, whole[:7]...), append(slices.Clone(whole[:8]), whole[:8]...), make([]byte, 1<<20)} {
			if Holds(with(f, tag), right()) {
				t.Errorf("Holds of %d bytes %v", len(tag), f)
			}
		}
	}
}

// P10.1: a tag with one bit turned, or two, holds no more.
func TestHoldsOfTurnedBits(t *testing.T) {
	for _, f := range each() {
		tag, _ := Tag(f, right())
		for i := range 64 {
			tag[i/8] ^= 1 << (i % 8)
			if Holds(with(f, tag), right()) {
				t.Errorf("Holds(%v) with the bit %d turned", f, i)
			}
			fails(t, put(t, with(f, tag)), right(), api.ErrTag)
			for j := range i {
				tag[j/8] ^= 1 << (j % 8)
				if Holds(with(f, tag), right()) {
					t.Errorf("Holds(%v) with the bits %d, %d turned", f, i, j)
				}
				tag[j/8] ^= 1 << (j % 8)
			}
			tag[i/8] ^= 1 << (i % 8)
		}
		if !Holds(with(f, tag), right()) {
			t.Errorf("Holds(%v) is false", with(f, tag))
		}
	}
}

// P10.1, P2: bytes that are too few, whatever the key is.
func TestOpenShort(t *testing.T) {
	failsAll(t, nil, api.ErrShort)
	failsAll(t, []byte{}, api.ErrShort)
	failsAll(t, []byte{0}, api.ErrShort)
	failsAll(t, []byte{255, 255}, api.ErrShort)
	for _, f := range each() {
		b, _ := Seal(f, right())
		for n := range 3 {
			failsAll(t, b[:n], api.ErrShort)
		}
	}
}

// P10.1, P2: bytes whose sum is wrong, whatever the key is, and whatever else is wrong.
func TestOpenSum(t *testing.T) {
	failsAll(t, []byte{0, 0, 0}, api.ErrSum)
	for _, f := range each() {
		b, _ := Seal(f, right())
		for i := range 8 * len(b) {
			b[i/8] ^= 1 << (i % 8)
			failsAll(t, b, api.ErrSum)
			b[i/8] ^= 1 << (i % 8)
		}
		for n := 3; n < len(b); n++ {
			failsAll(t, b[:n], api.ErrSum)
		}
		failsAll(t, append(slices.Clone(b), 1), api.ErrSum)
		opens(t, b, right(), with(f, reckoned(t, f, right())[:8]))
	}
	form := crc.Fix([]byte{0xFF, 0x20})
	form[len(form)-1] ^= 1
	failsAll(t, form, api.ErrSum)
}

// P10.1, P2: bytes whose sum is right and that are no frame, whatever the key is: bits missing or left, kinds and numbers that can't be.
func TestOpenForm(t *testing.T) {
	for _, b := range [][]byte{{}, {0}, {0xFF}, {0x21, 0x20}, make([]byte, 18), make([]byte, 200)} {
		failsAll(t, crc.Fix(b), api.ErrForm)
	}
	for _, f := range each() {
		b, _ := Seal(f, right())
		whole := b[:len(b)-3]
		for n := range len(whole) {
			failsAll(t, crc.Fix(whole[:n]), api.ErrForm)
		}
		failsAll(t, crc.Fix(append(slices.Clone(whole), 0)), api.ErrForm)
		failsAll(t, crc.Fix(append(slices.Clone(whole), 1)), api.ErrForm)
		failsAll(t, crc.Fix(b), api.ErrForm)
		// Noughts behind a right sum leave it right, so that the bytes are too many.
		failsAll(t, append(slices.Clone(b), 0), api.ErrForm)
		kind := slices.Clone(whole)
		kind[0] |= 0xC0
		failsAll(t, crc.Fix(kind), api.ErrForm)
		from := slices.Clone(whole)
		from[0] |= 0x08
		failsAll(t, crc.Fix(from), api.ErrForm)
		filled := slices.Clone(whole)
		filled[len(filled)-1] |= 1
		failsAll(t, crc.Fix(filled), api.ErrForm)
	}
}

// P10.1: whatever bit of sealed bytes is turned, with the sum set right: it is no frame, or its tag does not hold.
func TestOpenTurned(t *testing.T) {
	for _, f := range each() {
		b, _ := Seal(f, right())
		whole := b[:len(b)-3]
		for i := range 8 * len(whole) {
			turned := slices.Clone(whole)
			turned[i/8] ^= 1 << (i % 8)
			turned = crc.Fix(turned)
			want := api.ErrTag
			if _, e := frame.Get(turned); e != api.OK {
				want = e
			}
			fails(t, turned, right(), want)
			fails(t, turned, nil, want)
		}
	}
}

// P10.1: a frame that was put with a tag of its own, right or not, is no other than one that was sealed.
func TestOpenOfPut(t *testing.T) {
	for _, f := range each() {
		want := reckoned(t, f, right())[:8]
		opens(t, put(t, with(f, want)), right(), with(f, want))
		fails(t, put(t, with(f, want)), wrong(), api.ErrTag)
		for _, tag := range [][]byte{make([]byte, 8), text(8, 1), bytes.Repeat([]byte{0xFF}, 8)} {
			fails(t, put(t, with(f, tag)), right(), api.ErrTag)
			fails(t, put(t, with(f, tag)), wrong(), api.ErrTag)
			fails(t, put(t, with(f, tag)), nil, api.ErrTag)
		}
	}
}

// P3: nil and empty lists are the same.
func TestNilAndEmpty(t *testing.T) {
	f, g := ping(), ping()
	g.Key, g.Body, g.Tag = []byte{}, text(5, 1)[:0], []byte{}
	a, _ := Seal(f, right())
	b, e := Seal(g, right())
	if !bytes.Equal(a, b) || e != api.OK {
		t.Errorf("Seal: %x, %x, %d", a, b, e)
	}
	if Holds(f, right()) || Holds(g, right()) || Holds(f, nil) || Holds(g, []byte{}) {
		t.Error("no tag holds")
	}
	if Holds(api.Frame{}, nil) || Holds(api.Frame{Tag: []byte{}}, []byte{}) {
		t.Error("a tag of nothing holds")
	}
}

// P4: what is handed in is as it was, and nothing behind it is written on, though all of it stands in one row.
func TestHandedIn(t *testing.T) {
	for _, f := range each() {
		row := text(200, 1)
		key := append(row[:0], right()...)
		want, _ := Tag(f, key)
		f.Tag = append(row[20:20], want...)
		if f.Kind != api.FPing {
			f.Key = append(row[40:40], f.Key...)
		}
		if f.Kind == api.FData {
			f.Body = append(row[80:80], f.Body...)
		}
		b := append(row[100:100], put(t, f)...)
		held := slices.Clone(row)
		seals(t, f, key)
		opens(t, b, key, f)
		fails(t, b[:len(b)-1], key, api.ErrSum)
		fails(t, b, key[:15], api.ErrTag)
		refuses(t, f, key[:15])
		if !bytes.Equal(row, held) {
			t.Errorf("the row has become %x", row)
		}
	}
}

// P4: a key that stands in the frame as well, and a tag that is the key's beginning.
func TestSharedLists(t *testing.T) {
	for _, f := range each() {
		key := right()
		if f.Kind != api.FPing {
			f.Key = key
		}
		f.Tag = key[:8]
		if f.Kind == api.FData {
			f.Body = key[4:16]
		}
		seals(t, f, key)
	}
}

// scribble changes lists, up to all that they could grow to.
func scribble(lists ...[]byte) {
	for _, l := range lists {
		l = l[:cap(l)]
		for i := range l {
			l[i] ^= 0x5A
		}
	}
}

// P4: answers are new memory: whatever is done with one, or with what was handed in, changes no other.
func TestNewMemory(t *testing.T) {
	for _, f := range each() {
		f := copied(f)
		key := right()
		f.Tag = reckoned(t, f, key)[:8]
		wantTag, wantAll, want := slices.Clone(f.Tag), put(t, f), copied(f)
		tag, _ := Tag(f, key)
		all, _ := Seal(f, key)
		got, _ := Open(all, key)
		scribble(tag)
		scribble(all)
		if !alike(got, want) || !alike(f, want) {
			t.Errorf("Open, or what was handed in, hangs on other answers: %v, %v, want %v", got, f, want)
		}
		again, _ := Open(wantAll, key)
		scribble(got.Key, got.Body, got.Tag)
		if !alike(again, want) || !alike(f, want) || !bytes.Equal(key, right()) {
			t.Errorf("Open hangs on an answer ahead of it: %v, want %v", again, want)
		}
		tag, _ = Tag(f, key)
		all, _ = Seal(f, key)
		scribble(f.Key, f.Body, f.Tag, key)
		if !bytes.Equal(tag, wantTag) || !bytes.Equal(all, wantAll) {
			t.Errorf("Tag or Seal hang on what was handed in: %x, %x", tag, all)
		}
	}
}

// P4: no list of an opened frame shares memory with another, not even behind its end.
func TestListsApart(t *testing.T) {
	b, _ := Seal(data(), right())
	for i := range 3 {
		f, _ := Open(b, right())
		want := copied(f)
		l := []*[]byte{&f.Key, &f.Body, &f.Tag}
		w := []*[]byte{&want.Key, &want.Body, &want.Tag}
		scribble(*l[i])
		*w[i] = slices.Clone(*l[i])
		if !alike(f, want) {
			t.Errorf("lists share memory: %v, want %v", f, want)
		}
	}
}

// P5: what is answered hangs on nothing that was asked ahead of it.
func TestAnswersTheSame(t *testing.T) {
	for range 3 {
		for _, f := range each() {
			seals(t, f, right())
			refuses(t, f, nil)
			seals(t, f, wrong())
			refuses(t, with(api.Frame{}, f.Tag), right())
			fails(t, put(t, with(f, make([]byte, 8))), right(), api.ErrTag)
		}
	}
}

// The chapter's Ways: a refusal wraps its number, and errors.Is tells that one alone.
func TestRefusals(t *testing.T) {
	_, noKey := tagOf(ping(), nil)
	_, noFrame := tagOf(api.Frame{}, right())
	_, notSealed := sealed(ping(), nil)
	_, short := opened(nil, right())
	_, sum := opened([]byte{0, 0, 0}, right())
	_, form := opened(crc.Fix(nil), right())
	b, _ := Seal(ping(), right())
	_, tag := opened(b, wrong())
	for _, c := range []struct {
		refused error
		want    api.Errno
	}{
		{noKey, api.ErrArg}, {noFrame, api.ErrArg}, {notSealed, api.ErrArg},
		{short, api.ErrShort}, {sum, api.ErrSum}, {form, api.ErrForm}, {tag, api.ErrTag}, {held(ping(), nil), api.ErrTag},
	} {
		for e := api.OK; e <= api.ErrTag+1; e++ {
			if errors.Is(c.refused, e) != (e == c.want) {
				t.Errorf("errors.Is(%v, %d): %t", c.refused, e, errors.Is(c.refused, e))
			}
		}
		if number(c.refused) != c.want {
			t.Errorf("number(%v): %d, want %d", c.refused, number(c.refused), c.want)
		}
	}
	if e := refuse("nothing", api.OK); e != nil || number(e) != api.OK {
		t.Errorf("OK is refused: %v", e)
	}
	for e := api.ErrArg; e <= api.ErrTag; e++ {
		if number(refuse("any", e)) != e {
			t.Errorf("number of %d: %d", e, number(refuse("any", e)))
		}
	}
}

// P10.2, P1: any frames, bytes and keys that a fuzzer wants.
func FuzzAll(f *testing.F) {
	f.Add([]byte("hi"), right(), 1, 3, 0, 1, 0, 2, uint64(0), int64(0), 7, 4)
	f.Add([]byte{0x21, 0x20}, right(), 2, 1, 2, 0, 0, 0, uint64(math.MaxUint64), int64(0), 0, 0)
	f.Add([]byte{}, right()[:15], 3, 7, 0, 65535, 1<<20, 0, uint64(1), int64(1<<40), 0, 256)
	f.Add(make([]byte, 18), []byte{}, 3, 7, 7, 65536, -1, 1<<20+1, uint64(1), int64(math.MinInt64), 256, 257)
	f.Fuzz(func(t *testing.T, b []byte, key []byte, kind int, from int, to int, epoch int, start int, round int, nonce uint64, stamp int64, view int, index int) {
		asked(t, b, key)
		asked(t, crc.Fix(b), key)
		g := api.Frame{Kind: kind, From: from, To: to, Epoch: epoch, Start: start, Round: round, Nonce: nonce, Stamp: stamp, View: view, Index: index, Key: b, Body: b, Tag: b}
		tried(t, g, key)
		tried(t, api.Frame{Kind: api.FPing, From: from & 7, To: to & 7, Nonce: nonce, Tag: b}, key)
		body := b[:min(len(b), 16)]
		tried(t, api.Frame{Kind: api.FData, From: from & 7, Epoch: epoch & 65535, Round: round & (1<<20 - 1), View: view & 255, Index: index & 255, Key: text(16, byte(nonce)), Body: body, Tag: b}, key)
		tried(t, api.Frame{Kind: api.FPong, From: from & 7, To: to & 7, Nonce: nonce, Stamp: stamp & (1<<40 - 1), Epoch: epoch & 65535, Start: start & (1<<20 - 1), Index: index & 255, Key: text(16, byte(nonce)), Tag: b}, key)
	})
}

// tried checks a frame and a key of which it is not known whether they are right.
func tried(t *testing.T, f api.Frame, key []byte) {
	t.Helper()
	if _, e := frame.Core(f); e != api.OK || len(key) != 16 {
		refuses(t, f, key)
		return
	}
	seals(t, f, key)
}

// asked checks Open of any bytes: what it takes, Seal tells again.
func asked(t *testing.T, b []byte, key []byte) {
	t.Helper()
	got, e := frame.Get(b)
	if e != api.OK {
		fails(t, b, key, e)
		return
	}
	if again, e := Seal(got, key); e != api.OK || !bytes.Equal(again, b) {
		fails(t, b, key, api.ErrTag)
		return
	}
	opens(t, b, key, got)
}
