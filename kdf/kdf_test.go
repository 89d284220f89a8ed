package kdf

import (
	"bytes"
	"crypto/hmac"
	"crypto/sha256"
	"encoding/binary"
	"encoding/hex"
	"math"
	"slices"
	"strings"
	"testing"

	"carillon/api"
)

const most = 255 * 32 // bytes that Expand tells

// text is n bytes without a short period, none of them nought at its end.
func text(n int) []byte {
	b := make([]byte, n)
	for i := range b {
		b[i] = byte(i*i>>3^i*11^i>>8) | 1
	}
	return b
}

// tag is the library's.
func tag(key []byte, b []byte) []byte {
	h := hmac.New(sha256.New, key)
	h.Write(b)
	return h.Sum(nil)
}

// expanded is all that Expand could tell of a key and an info, by the library's tags.
func expanded(key []byte, info []byte) []byte {
	if len(key) > 64 {
		sum := sha256.Sum256(key)
		key = sum[:]
	}
	var last, out []byte
	for i := 1; i <= 255; i++ {
		last = tag(key, slices.Concat(last, info, []byte{byte(i)}))
		out = append(out, last...)
	}
	return out
}

// derived is the key of a label and numbers, by the library's tag: it is not longer than one.
func derived(from []byte, label string, l ...uint64) []byte {
	info := append([]byte(label), 0)
	for _, n := range l {
		info = binary.BigEndian.AppendUint64(info, n)
	}
	return tag(from, append(info, 1))[:16]
}

// wants checks an answer that is no error.
func wants(t *testing.T, name string, got []byte, e api.Errno, want []byte) {
	t.Helper()
	if !bytes.Equal(got, want) || e != api.OK {
		t.Errorf("%s = %x, %v, want %x", name, got, e, want)
	}
}

// refuses checks an answer that is an error.
func refuses(t *testing.T, name string, got []byte, e api.Errno, want api.Errno) {
	t.Helper()
	if len(got) != 0 || e != want {
		t.Errorf("%s = %x, %v, want %v", name, got, e, want)
	}
}

func unhex(t *testing.T, s string) []byte {
	t.Helper()
	b, err := hex.DecodeString(s)
	if err != nil {
		t.Fatal(err)
	}
	return b
}

// span is the bytes from one to another.
func span(from int, to int) []byte {
	var b []byte
	for i := from; i <= to; i++ {
		b = append(b, byte(i))
	}
	return b
}

type published struct {
	bytes, salt, info []byte
	key, out          string
}

// allPublished are those of RFC 5869 with SHA-256.
func allPublished() []published {
	same := bytes.Repeat([]byte{0x0b}, 22)
	return []published{
		{same, span(0, 0x0c), span(0xf0, 0xf9),
			"077709362c2e32df0ddc3f0dc47bba6390b6c73bb50f9c3122ec844ad7c2b3e5",
			"3cb25f25faacd57a90434f64d0362f2a2d2d0a90cf1a5a4c5db02d56ecc4c5bf34007208d5b887185865"},
		{span(0, 0x4f), span(0x60, 0xaf), span(0xb0, 0xff),
			"06a6b88c5853361a06104c9ceb35b45cef760014904671014a193f40c15fc244",
			"b11e398dc80327a1c8e7f78c596a49344f012eda2d4efad8a050cc4c19afa97c59045a99cac7827271cb41c65e590e09da3275600c2f09b8367793a9aca3db71cc30c58179ec3e87c14c01d5c1f3434f1d87"},
		{same, nil, nil,
			"19ef24a32c717b167f33a91d6f648bdf96596776afdb6377ac434c1c293ccb04",
			"8da4e775a563c18f715f802a063c5a31b8a11f5c5ee1879ec3454e5f3c738d2d9d201395faa4b61a96c8"},
	}
}

// P4.1: the keys that were published.
func TestPublished(t *testing.T) {
	for _, p := range allPublished() {
		key, e := Extract(p.salt, p.bytes)
		wants(t, "Extract", key, e, unhex(t, p.key))
		want := unhex(t, p.out)
		out, e := Expand(key, p.info, len(want))
		wants(t, "Expand", out, e, want)
	}
}

// P4.1: Extract is the tag of b under the salt, not the other way round, salts and bytes of all kinds of lengths.
func TestExtract(t *testing.T) {
	for _, n := range []int{0, 1, 13, 32, 63, 64, 65, 80, 1001} {
		for _, size := range []int{0, 1, 22, 55, 56, 64, 1000, 1001} {
			got, e := Extract(text(n), text(size))
			wants(t, "Extract", got, e, tag(text(n), text(size)))
		}
	}
}

// P4.1: Extract at the limits of hmac.Of, and beyond each of them.
func TestExtractLimits(t *testing.T) {
	all := text(api.MaxBytes + 1)
	room := api.MaxBytes - 64
	for _, n := range []int{room - 1, room} {
		got, e := Extract(text(13), all[:n])
		wants(t, "Extract of as many bytes as may be", got, e, tag(text(13), all[:n]))
	}
	for _, n := range []int{room + 1, api.MaxBytes, api.MaxBytes + 1} {
		got, e := Extract(text(13), all[:n])
		refuses(t, "Extract of too many bytes", got, e, api.ErrLong)
	}
	got, e := Extract(all[:api.MaxBytes], text(22))
	wants(t, "Extract with as long a salt as may be", got, e, tag(all[:api.MaxBytes], text(22)))
	got, e = Extract(all, text(22))
	refuses(t, "Extract with too long a salt", got, e, api.ErrLong)
	got, e = Extract(all, all)
	refuses(t, "Extract with both too long", got, e, api.ErrLong)
}

// P4.1: Expand, keys and infos of all kinds of lengths, n at which a tag begins and ends.
func TestExpand(t *testing.T) {
	for _, size := range []int{0, 1, 16, 32, 63, 64, 65, 100, 1000, 1001, 5000} {
		for _, length := range []int{0, 1, 10, 22, 23, 31, 32, 64, 999, 1000} {
			key, info := text(size), text(length)
			want := expanded(key, info)
			for _, n := range []int{0, 1, 16, 31, 32, 33, 42, 63, 64, 65, 96, 8129, most - 1, most} {
				got, e := Expand(key, info, n)
				wants(t, "Expand", got, e, want[:n])
			}
		}
	}
}

// P4.1, P6: n below 0, or above 255 times 32.
func TestExpandRefusesNumber(t *testing.T) {
	for _, n := range []int{-1, -31, -32, math.MinInt32, math.MinInt, most + 1, most + 32, 256 * 32, math.MaxInt32, math.MaxInt - 31, math.MaxInt} {
		got, e := Expand(text(32), text(10), n)
		refuses(t, "Expand", got, e, api.ErrArg)
	}
}

// P4.1: an info of 1000 bytes, and of more; even if nothing is to be told.
func TestExpandInfoLimit(t *testing.T) {
	for _, n := range []int{0, 1, 33, most} {
		got, e := Expand(text(32), text(1000), n)
		wants(t, "Expand with an info of 1000 bytes", got, e, expanded(text(32), text(1000))[:n])
		for _, size := range []int{1001, 2000, api.MaxBytes + 1} {
			got, e := Expand(text(32), text(size), n)
			refuses(t, "Expand with too long an info", got, e, api.ErrLong)
		}
	}
}

// P4.1: a key of MaxBytes, and of one more; even if nothing is to be told.
func TestExpandKeyLimit(t *testing.T) {
	all := text(api.MaxBytes + 1)
	for _, size := range []int{api.MaxBytes - 1, api.MaxBytes} {
		want := expanded(all[:size], text(10))
		for _, n := range []int{0, 1, 33, most} {
			got, e := Expand(all[:size], text(10), n)
			wants(t, "Expand with a long key", got, e, want[:n])
		}
	}
	for _, n := range []int{0, 1, 33, most} {
		got, e := Expand(all, text(10), n)
		refuses(t, "Expand with too long a key", got, e, api.ErrLong)
	}
}

// P2: n is looked at ahead of what is too long.
func TestExpandOrder(t *testing.T) {
	long := text(api.MaxBytes + 1)
	for _, n := range []int{-1, most + 1} {
		got, e := Expand(long, nil, n)
		refuses(t, "Expand", got, e, api.ErrArg)
		got, e = Expand(nil, long, n)
		refuses(t, "Expand", got, e, api.ErrArg)
		got, e = Expand(long, long, n)
		refuses(t, "Expand", got, e, api.ErrArg)
	}
	got, e := Expand(long, long, 16)
	refuses(t, "Expand", got, e, api.ErrLong)
}

// P4.1: T(i) counts from 1 on, the tag ahead of it comes first, and info behind it.
func TestExpandByHand(t *testing.T) {
	key, info := text(20), []byte("info")
	first := tag(key, []byte("info\x01"))
	second := tag(key, []byte(string(first)+"info\x02"))
	got, e := Expand(key, info, 64)
	wants(t, "Expand", got, e, slices.Concat(first, second))
}

// P4.3: fewer bytes of Expand are the beginning of more.
func TestExpandBeginning(t *testing.T) {
	whole, e := Expand(text(16), text(10), most)
	if e != api.OK || len(whole) != most {
		t.Fatalf("Expand: %d bytes, %v", len(whole), e)
	}
	for n := 0; n <= most; n += 1 + n/50 {
		got, e := Expand(text(16), text(10), n)
		wants(t, "Expand", got, e, whole[:n])
	}
}

// P4.2: Key, labels of 1 to MaxLabel letters, 0 to 16 numbers, at their ends, too.
func TestKey(t *testing.T) {
	alphabet := "abcdefghijklmnopqrstuvwxyz"
	numbers := []uint64{0, 1, 2, 255, 256, 1 << 16, 1<<32 - 1, 1 << 32, 1<<63 - 1, 1 << 63, math.MaxUint64, 0x0102030405060708, 3, 5, 7, 11}
	for _, label := range []string{"a", "z", "az", "pair", "seed", alphabet, strings.Repeat("a", 63), strings.Repeat("z", 64), alphabet + alphabet + alphabet[:12]} {
		for n := range len(numbers) + 1 {
			got, e := Key(text(16), label, numbers[:n]...)
			wants(t, "Key of "+label, got, e, derived(text(16), label, numbers[:n]...))
			if len(got) != api.KeyBytes {
				t.Errorf("Key of %s has %d bytes", label, len(got))
			}
		}
	}
}

// P4.2: Key is Expand with the info that the chapter tells.
func TestKeyIsExpand(t *testing.T) {
	want, _ := Expand(text(16), []byte("epoch\x00\x00\x00\x00\x00\x00\x00\x01\x02\xff\xff\xff\xff\xff\xff\xff\xff"), 16)
	got, e := Key(text(16), "epoch", 258, math.MaxUint64)
	wants(t, "Key", got, e, want)
	want, _ = Expand(text(16), []byte("epoch\x00"), 16)
	got, e = Key(text(16), "epoch")
	wants(t, "Key without numbers", got, e, want)
}

// P4.2: a sign that is no letter a to z, wherever it is, is refused, and so are no letters, and too many.
func TestKeyRefusesLabel(t *testing.T) {
	labels := []string{"", strings.Repeat("a", 65), strings.Repeat("a", 66), strings.Repeat("a", 320), strings.Repeat("a", api.MaxBytes), "ä", "é", "ａ", "а", "ß", "a\u0301", "\u2028", "\xff", "a\xe4"}
	for c := range 256 {
		if c >= 'a' && c <= 'z' {
			continue
		}
		s := string([]byte{byte(c)})
		labels = append(labels, s, s+"b", "b"+s, "pa"+s+"ir", strings.Repeat("a", 63)+s, strings.Repeat("a", 64)+s)
	}
	for _, label := range labels {
		got, e := Key(text(16), label, 1, 2)
		refuses(t, "Key of "+hex.EncodeToString([]byte(label[:min(len(label), 70)])), got, e, api.ErrArg)
	}
}

// P4.2: 16 numbers, and more.
func TestKeyNumbersLimit(t *testing.T) {
	for _, n := range []int{15, 16} {
		l := make([]uint64, n)
		got, e := Key(text(16), "own", l...)
		wants(t, "Key", got, e, derived(text(16), "own", l...))
	}
	for _, n := range []int{17, 18, 32, 256, 1000} {
		got, e := Key(text(16), "own", make([]uint64, n)...)
		refuses(t, "Key with too many numbers", got, e, api.ErrArg)
	}
}

// P4.2: a key to Key of 1000 bytes, and of more.
func TestKeyFromLimit(t *testing.T) {
	for _, n := range []int{0, 1, 15, 16, 17, 64, 65, 999, 1000} {
		got, e := Key(text(n), "own", 3)
		wants(t, "Key", got, e, derived(text(n), "own", 3))
	}
	for _, n := range []int{1001, 1002, 2000, api.MaxBytes, api.MaxBytes + 1} {
		got, e := Key(text(n), "own", 3)
		refuses(t, "Key of too long a key", got, e, api.ErrLong)
	}
}

// P2: label and numbers are looked at ahead of what is too long.
func TestKeyOrder(t *testing.T) {
	long := text(1001)
	for _, from := range [][]byte{nil, text(16), long, text(api.MaxBytes + 1)} {
		got, e := Key(from, "")
		refuses(t, "Key", got, e, api.ErrArg)
		got, e = Key(from, "A", 1)
		refuses(t, "Key", got, e, api.ErrArg)
		got, e = Key(from, "a", make([]uint64, 17)...)
		refuses(t, "Key", got, e, api.ErrArg)
		got, e = Key(from, "A", make([]uint64, 17)...)
		refuses(t, "Key", got, e, api.ErrArg)
	}
}

// P4.2: other labels, numbers, orders of numbers and keys have other keys: none of them is left out.
func TestKeyHangsOnAll(t *testing.T) {
	seen := map[string]int{}
	add := func(from []byte, label string, l ...uint64) {
		got, e := Key(from, label, l...)
		if e != api.OK {
			t.Errorf("Key: %v", e)
		}
		seen[string(got)]++
	}
	for _, from := range [][]byte{text(16), text(15), make([]byte, 16)} {
		add(from, "a")
		add(from, "aa")
		add(from, "b")
		for _, l := range [][]uint64{{0}, {0, 0}, {1}, {1, 2}, {2, 1}, {1 << 32}, {1 << 63}, {256}} {
			add(from, "a", l...)
		}
	}
	if len(seen) != 33 {
		t.Errorf("33 different calls have %d keys", len(seen))
	}
}

// P4.2, P4.3: Pair, all pairs of nodes; it does not hang on the order; each pair has a key of its own.
func TestPair(t *testing.T) {
	seen := map[string]bool{}
	for i := range api.MaxNodes {
		for j := range i {
			want := derived(text(16), "pair", uint64(j), uint64(i))
			got, e := Pair(text(16), i, j)
			wants(t, "Pair", got, e, want)
			got, e = Pair(text(16), j, i)
			wants(t, "Pair the other way round", got, e, want)
			seen[string(got)] = true
		}
	}
	if len(seen) != 28 {
		t.Errorf("28 pairs have %d keys", len(seen))
	}
}

// P4.2: the chapter's example.
func TestExample(t *testing.T) {
	m := text(16)
	one, e := Pair(m, 1, 2)
	other, f := Pair(m, 2, 1)
	if !bytes.Equal(one, other) || len(one) != api.KeyBytes || e != api.OK || f != api.OK {
		t.Errorf("Pair = %x, %v and %x, %v", one, e, other, f)
	}
}

// noNodes are numbers that no node has.
func noNodes() []int {
	return []int{-1, -8, api.MaxNodes, api.MaxNodes + 1, 255, 256, math.MinInt32, math.MaxInt32, math.MinInt, math.MaxInt}
}

// P4.2: Pair of what is no node, on either side, and of one node with itself, whatever the master; P2: ahead of what is too long.
func TestPairRefuses(t *testing.T) {
	for _, master := range [][]byte{nil, text(16), text(1000), text(1001), text(api.MaxBytes + 1)} {
		for _, i := range noNodes() {
			for _, j := range []int{0, 1, api.MaxNodes - 1, -1, api.MaxNodes, i} {
				got, e := Pair(master, i, j)
				refuses(t, "Pair", got, e, api.ErrArg)
				got, e = Pair(master, j, i)
				refuses(t, "Pair", got, e, api.ErrArg)
			}
		}
		for i := range api.MaxNodes {
			got, e := Pair(master, i, i)
			refuses(t, "Pair of one with itself", got, e, api.ErrArg)
		}
	}
}

// P4.2: Own, all nodes; each has a key of its own, which is no pair's.
func TestOwn(t *testing.T) {
	seen := map[string]bool{}
	for i := range api.MaxNodes {
		got, e := Own(text(16), i)
		wants(t, "Own", got, e, derived(text(16), "own", uint64(i)))
		seen[string(got)] = true
		for j := range i {
			pair, _ := Pair(text(16), i, j)
			seen[string(pair)] = true
		}
	}
	if len(seen) != 8+28 {
		t.Errorf("8 nodes and 28 pairs have %d keys", len(seen))
	}
}

// P4.2: Own of what is no node, whatever the master; P2: ahead of what is too long.
func TestOwnRefuses(t *testing.T) {
	for _, master := range [][]byte{nil, text(16), text(1000), text(1001), text(api.MaxBytes + 1)} {
		for _, i := range noNodes() {
			got, e := Own(master, i)
			refuses(t, "Own", got, e, api.ErrArg)
		}
	}
}

// P4.2: a master may have 0 to 1000 bytes, as Key's key; more are Key's error.
func TestMasterLimit(t *testing.T) {
	for _, n := range []int{0, 1, 15, 16, 17, 64, 65, 1000} {
		got, e := Pair(text(n), 7, 0)
		wants(t, "Pair", got, e, derived(text(n), "pair", 0, 7))
		got, e = Own(text(n), 7)
		wants(t, "Own", got, e, derived(text(n), "own", 7))
	}
	for _, n := range []int{1001, api.MaxBytes + 1} {
		got, e := Pair(text(n), 7, 0)
		refuses(t, "Pair of too long a master", got, e, api.ErrLong)
		got, e = Own(text(n), 7)
		refuses(t, "Own of too long a master", got, e, api.ErrLong)
	}
}

// P4.2: Step and Mac, keys of all kinds; a key of theirs has one again.
func TestStepAndMac(t *testing.T) {
	for _, key := range [][]byte{text(16), make([]byte, 16), bytes.Repeat([]byte{0xff}, 16)} {
		for range 20 {
			step, e := Step(key)
			wants(t, "Step", step, e, derived(key, "chain"))
			mac, e := Mac(key)
			wants(t, "Mac", mac, e, derived(key, "mac"))
			key = step
		}
	}
}

// P4.2: Step and Mac of a key that has not KeyBytes: ErrArg, however long it is.
func TestStepAndMacRefuse(t *testing.T) {
	for _, n := range []int{0, 1, 15, 17, 32, 64, 272, 1000, 1001, api.MaxBytes, api.MaxBytes + 1} {
		got, e := Step(text(n))
		refuses(t, "Step", got, e, api.ErrArg)
		got, e = Mac(text(n))
		refuses(t, "Mac", got, e, api.ErrArg)
	}
	got, e := Step(nil)
	refuses(t, "Step of nil", got, e, api.ErrArg)
	got, e = Mac(nil)
	refuses(t, "Mac of nil", got, e, api.ErrArg)
}

// P1, P3: nil and empty lists are the same, everywhere.
func TestNilAndEmpty(t *testing.T) {
	for _, b := range [][]byte{nil, {}} {
		for _, c := range [][]byte{nil, {}} {
			got, e := Extract(b, c)
			wants(t, "Extract", got, e, tag(nil, nil))
			got, e = Expand(b, c, 42)
			wants(t, "Expand", got, e, expanded(nil, nil)[:42])
			got, e = Expand(b, c, 0)
			wants(t, "Expand of nothing", got, e, nil)
		}
		for _, l := range [][]uint64{nil, {}} {
			got, e := Key(b, "own", l...)
			wants(t, "Key", got, e, derived(nil, "own"))
		}
		got, e := Pair(b, 0, 1)
		wants(t, "Pair", got, e, derived(nil, "pair", 0, 1))
		got, e = Own(b, 0)
		wants(t, "Own", got, e, derived(nil, "own", 0))
		got, e = Step(b)
		refuses(t, "Step", got, e, api.ErrArg)
		got, e = Mac(b)
		refuses(t, "Mac", got, e, api.ErrArg)
	}
}

// each is every call with a key of KeyBytes, and what else it needs.
func each(key []byte, info []byte, l []uint64) [][]byte {
	var all [][]byte
	add := func(b []byte, e api.Errno) {
		if e == api.OK {
			all = append(all, b)
		}
	}
	add(Extract(key, info))
	add(Expand(key, info, 0))
	add(Expand(key, info, 1))
	add(Expand(key, info, 42))
	add(Key(key, "own", l...))
	add(Pair(key, 3, 5))
	add(Own(key, 3))
	add(Step(key))
	add(Mac(key))
	return all
}

// P4: what is handed in is neither changed nor kept, nor what lies behind it.
func TestKeepsNothing(t *testing.T) {
	whole, room := text(100), text(200)
	l := []uint64{1, 2, 3, 4}
	want := each(text(16), text(10), []uint64{1, 2})
	got := each(whole[:16], room[:10], l[:2])
	if !bytes.Equal(whole, text(100)) || !bytes.Equal(room, text(200)) || !slices.Equal(l, []uint64{1, 2, 3, 4}) {
		t.Error("what was handed in has changed")
	}
	clear(whole)
	clear(room)
	clear(l)
	if len(got) != 9 || !slices.EqualFunc(got, want, bytes.Equal) {
		t.Errorf("answers hang on what was handed in: %x, want %x", got, want)
	}
}

// P4, P5: answers are new memory, and the same each time, whatever was done with the ones ahead of them.
func TestAnswersAreNewMemory(t *testing.T) {
	key, info, l := text(16), text(10), []uint64{1, 2}
	var want [][]byte
	for _, b := range each(key, info, l) {
		want = append(want, slices.Clone(b))
	}
	for range 3 {
		got := each(key, info, l)
		if !slices.EqualFunc(got, want, bytes.Equal) {
			t.Errorf("answers have become %x, want %x", got, want)
		}
		for _, b := range got {
			clear(b[:cap(b)])
		}
	}
}

// P4.1, P4.2: an answer has no more of the key's bytes behind it, that a caller could cut out.
func TestAnswersHoldNoMore(t *testing.T) {
	whole := expanded(text(16), text(10))
	for n := 1; n < 100; n++ {
		got, _ := Expand(text(16), text(10), n)
		if behind := got[:cap(got)][n:]; len(behind) > 0 && behind[0] == whole[n] {
			t.Errorf("Expand(.., %d) has %x behind it", n, behind)
		}
	}
	key, _ := Key(text(16), "own", 3)
	if cap(key) != api.KeyBytes {
		t.Errorf("Key has %x behind it", key[:cap(key)][len(key):])
	}
}

// P4.1, P4.2: any key, info, label and numbers that a fuzzer wants.
func FuzzAll(f *testing.F) {
	f.Add(text(16), text(10), 42, "pair", uint64(1), uint64(2))
	f.Add(text(65), []byte{}, most, "", uint64(0), uint64(math.MaxUint64))
	f.Fuzz(func(t *testing.T, key []byte, info []byte, n int, label string, x uint64, y uint64) {
		got, e := Expand(key, info, n)
		switch {
		case n < 0 || n > most:
			refuses(t, "Expand", got, e, api.ErrArg)
		case len(info) > 1000 || len(key) > api.MaxBytes:
			refuses(t, "Expand", got, e, api.ErrLong)
		default:
			wants(t, "Expand", got, e, expanded(key, info)[:n])
		}
		got, e = Key(key, label, x, y)
		switch {
		case label == "" || len(label) > 64 || strings.Trim(label, "abcdefghijklmnopqrstuvwxyz") != "":
			refuses(t, "Key", got, e, api.ErrArg)
		case len(key) > 1000:
			refuses(t, "Key", got, e, api.ErrLong)
		default:
			wants(t, "Key", got, e, derived(key, label, x, y))
		}
	})
}
