package chain

import (
	"bytes"
	"crypto/hmac"
	"crypto/sha256"
	"encoding/binary"
	"encoding/hex"
	"fmt"
	"math"
	"slices"
	"testing"

	"carillon/api"
	"carillon/kdf"
)

// text is n bytes without a short period, others for each start.
func text(n int, start int) []byte {
	b := make([]byte, n)
	for i := range b {
		k := i + 7*start
		b[i] = byte(k*k>>3 ^ k*11 ^ k>>8 ^ start<<4)
	}
	return b
}

// span is KeyBytes bytes, each one more than the one ahead.
func span(from byte) []byte {
	b := make([]byte, api.KeyBytes)
	for i := range b {
		b[i] = from + byte(i)
	}
	return b
}

func unhex(t testing.TB, s string) []byte {
	t.Helper()
	b, err := hex.DecodeString(s)
	if err != nil {
		t.Fatal(err)
	}
	return b
}

// derived is the key of a label and numbers, by the library's tag.
func derived(from []byte, label string, l ...uint64) []byte {
	info := append([]byte(label), 0)
	for _, n := range l {
		info = binary.BigEndian.AppendUint64(info, n)
	}
	h := hmac.New(sha256.New, from)
	h.Write(append(info, 1))
	return h.Sum(nil)[:16]
}

// twin is the keys 0 to n of a seed, by the library's tags: the last one and n steps of it, turned round.
func twin(seed []byte, n int) [][]byte {
	row := [][]byte{derived(seed, "seed")}
	for len(row) <= n {
		row = append(row, derived(row[len(row)-1], "chain"))
	}
	slices.Reverse(row)
	return row
}

// tells checks an answer that is no error.
func tells(t testing.TB, name string, got []byte, e api.Errno, want []byte) {
	t.Helper()
	if !bytes.Equal(got, want) || e != api.OK {
		t.Errorf("%s = %x, %v, want %x", name, got, e, want)
	}
}

// refuses checks an answer that is an error.
func refuses(t testing.TB, name string, got []byte, e api.Errno) {
	t.Helper()
	if len(got) != 0 || e != api.ErrArg {
		t.Errorf("%s = %x, %v, want %v", name, got, e, api.ErrArg)
	}
}

// follows checks an answer of Follows.
func follows(t testing.TB, i int, known []byte, j int, key []byte, want api.Errno) {
	t.Helper()
	if e := Follows(i, known, j, key); e != want {
		t.Errorf("Follows(%d, %x, %d, %x) = %v, want %v", i, known, j, key, e, want)
	}
}

// all is the keys of a chain that must be told.
func all(t testing.TB, seed []byte, n int) [][]byte {
	t.Helper()
	keys, e := All(seed, n)
	if len(keys) != n+1 || e != api.OK {
		t.Fatalf("All of %d keys: %d of them, %v", n, len(keys), e)
	}
	return keys
}

// noKeys are lists that have not KeyBytes.
func noKeys() [][]byte {
	out := [][]byte{nil, {}}
	for _, n := range []int{1, 8, api.KeyBytes - 1, api.KeyBytes + 1, 2 * api.KeyBytes, 64, 256 + api.KeyBytes, 1000, 1001, 1<<16 + api.KeyBytes} {
		out = append(out, text(n, 1))
	}
	return out
}

// below0 are numbers that are no place of any chain.
func below0() []int {
	return []int{-1, -2, -api.MaxKeys, -65536, math.MinInt32, math.MinInt + 1, math.MinInt}
}

// tooMany are numbers above MaxKeys.
func tooMany() []int {
	return []int{api.MaxKeys + 1, api.MaxKeys + 2, 2 * api.MaxKeys, 65536, 1 << 20, math.MaxInt32, 1 << 32, 1<<32 + 8, math.MaxInt - 1, math.MaxInt}
}

// P14.1: seeds of several epochs, worked out apart.
func TestSeedBytes(t *testing.T) {
	for _, x := range []struct {
		epoch int
		want  string
	}{
		{0, "45217205bf2ccfd9490f62bc862f3e4d"},
		{1, "6161086b55d8b98aa92c03e1ffef99d9"},
		{2, "1c4c25a101ea4fd592a03c9b2e35c7cb"},
		{255, "108924da33ca9e0f847430555daacc1b"},
		{256, "42309b306531c8bf7c651d4ce00b0401"},
		{258, "afab28eaed49843c8c09f77d799bb750"},
		{65535, "731c70815c39681e4a2e1657d4602f5f"},
	} {
		got, e := Seed(span(0), x.epoch)
		tells(t, fmt.Sprintf("Seed of %d", x.epoch), got, e, unhex(t, x.want))
	}
}

// P14.1: a seed is the own key's, by the label epoch and the epoch's number; each epoch and each own key has another one.
func TestSeed(t *testing.T) {
	seen := map[string]bool{}
	epochs := []int{0, 1, 2, 3, 7, 127, 128, 255, 256, 1000, 4096, 32767, 32768, 65534, 65535}
	for start := range 4 {
		own := text(api.KeyBytes, start)
		for _, epoch := range epochs {
			got, e := Seed(own, epoch)
			tells(t, "Seed", got, e, derived(own, "epoch", uint64(epoch)))
			want, _ := kdf.Key(own, "epoch", uint64(epoch))
			tells(t, "Seed", got, e, want)
			seen[string(got)] = true
		}
	}
	if len(seen) != 4*len(epochs) {
		t.Errorf("%d seeds of %d", len(seen), 4*len(epochs))
	}
}

// P14.1, P6: an own key that has not KeyBytes, an epoch that is not 0 to 65535, both.
func TestSeedRefuses(t *testing.T) {
	bad := append(below0(), 65536, 65537, 131071, 1<<32, 1<<32+7, math.MaxInt32, math.MaxInt)
	for _, own := range noKeys() {
		for _, epoch := range append(bad, 0, 1, 65535) {
			got, e := Seed(own, epoch)
			refuses(t, "Seed of no key", got, e)
		}
	}
	for _, epoch := range bad {
		got, e := Seed(span(0), epoch)
		refuses(t, "Seed of no epoch", got, e)
	}
}

// P14.1: the keys of a chain of 4 and of one of MaxKeys, worked out apart, by All, Key and Back.
func TestKeysBytes(t *testing.T) {
	for _, x := range []struct {
		n, i int
		want string
	}{
		{4, 0, "688b0f87c63a24d1f27d69d86e0d931b"},
		{4, 1, "f2c6f701d8d1991c20ca31d3813ce838"},
		{4, 2, "e072c9bb35a87a831beb95666369a475"},
		{4, 3, "85d17e3e05b4c1272ff9a0f398e65fa4"},
		{4, 4, "33ab3748335ff0022ca7355c97618b54"},
		{256, 0, "bc1e3eeb55c972758dceca4ff617ac37"},
		{256, 1, "3d83a4971f9439518abf2acc2fed1c17"},
		{256, 128, "0f4535ee1280f41682f36138325e24f3"},
		{256, 255, "85d17e3e05b4c1272ff9a0f398e65fa4"},
		{256, 256, "33ab3748335ff0022ca7355c97618b54"},
	} {
		want := unhex(t, x.want)
		tells(t, "All", all(t, span(0x20), x.n)[x.i], api.OK, want)
		got, e := Key(span(0x20), x.n, x.i)
		tells(t, "Key", got, e, want)
		got, e = Back(unhex(t, "33ab3748335ff0022ca7355c97618b54"), x.n-x.i)
		tells(t, "Back", got, e, want)
	}
}

// P14.1: each key of a chain is a step of the one above it, the last one is the seed's by the label seed; chains of 1 to MaxKeys keys; Key at every i is All's.
func TestAllAndKey(t *testing.T) {
	for _, n := range []int{1, 2, 3, 7, 8, 9, 31, 64, 100, api.MaxKeys - 1, api.MaxKeys} {
		seed := text(api.KeyBytes, n)
		keys, want := all(t, seed, n), twin(seed, n)
		last, _ := kdf.Key(seed, "seed")
		tells(t, "the last key", keys[n], api.OK, last)
		for i, key := range keys {
			tells(t, "All", key, api.OK, want[i])
			if i < n {
				step, _ := kdf.Step(keys[i+1])
				tells(t, "a key below another one", key, api.OK, step)
			}
			got, e := Key(seed, n, i)
			tells(t, fmt.Sprintf("Key %d of %d", i, n), got, e, key)
		}
	}
}

// P14.1: a chain of fewer keys is the upper end of one of more: what is numbered is where the commitment stands.
func TestShorterChain(t *testing.T) {
	keys := all(t, span(9), 40)
	for n := 1; n < 40; n++ {
		for i, key := range all(t, span(9), n) {
			tells(t, "All of fewer", key, api.OK, keys[i+40-n])
		}
	}
}

// P14.1: other seeds have other chains, of which no key is twice there; no key is the seed.
func TestKeysDiffer(t *testing.T) {
	seen := map[string]bool{}
	for start := range 8 {
		seed := text(api.KeyBytes, start)
		seen[string(seed)] = true
		for _, key := range all(t, seed, 50) {
			if len(key) != api.KeyBytes {
				t.Errorf("a key of %d bytes", len(key))
			}
			seen[string(key)] = true
		}
	}
	if len(seen) != 8*52 {
		t.Errorf("8 seeds and their 51 keys each are %d", len(seen))
	}
}

// P14.1: Back of each key of a chain, as far as each one below it, is Key's.
func TestBack(t *testing.T) {
	keys := all(t, span(3), 40)
	for j, key := range keys {
		for i := range j + 1 {
			got, e := Back(key, j-i)
			tells(t, fmt.Sprintf("Back from %d to %d", j, i), got, e, keys[i])
		}
	}
}

// P14.1: Back takes any key of KeyBytes, and steps from 0 to MaxKeys.
func TestBackSteps(t *testing.T) {
	for _, key := range [][]byte{make([]byte, 16), bytes.Repeat([]byte{0xff}, 16), text(16, 5)} {
		want := slices.Clone(key)
		for n := range api.MaxKeys + 1 {
			got, e := Back(key, n)
			tells(t, fmt.Sprintf("Back by %d", n), got, e, want)
			want = derived(want, "chain")
		}
	}
}

// P14.1: the chapter's example.
func TestExample(t *testing.T) {
	s := span(0x60)
	five, e := Key(s, 8, 5)
	tells(t, "Key", five, e, twin(s, 8)[5])
	none, e := Key(s, 8, 0)
	tells(t, "Key", none, e, twin(s, 8)[0])
	got, e := Back(five, 5)
	tells(t, "Back(Key(s, 8, 5), 5)", got, e, none)
}

// P14.1, P1, P6: All of what is no seed, or of a number of keys that can't be: 0 is none.
func TestAllRefuses(t *testing.T) {
	check := func(seed []byte, n int) {
		t.Helper()
		if got, e := All(seed, n); len(got) != 0 || e != api.ErrArg {
			t.Errorf("All of %d bytes, %d: %d keys, %v", len(seed), n, len(got), e)
		}
	}
	bad := slices.Concat(below0(), []int{0}, tooMany())
	for _, n := range bad {
		check(span(1), n)
	}
	for _, seed := range noKeys() {
		for _, n := range append(bad, 1, 8, api.MaxKeys) {
			check(seed, n)
		}
	}
}

// P14.1, P1, P6: Key of what is no seed, of a number of keys that can't be, of a place that the chain has not.
func TestKeyRefuses(t *testing.T) {
	bad := slices.Concat(below0(), []int{0}, tooMany())
	for _, n := range bad {
		for _, i := range append(bad, 1, n, n-1, n+1) {
			got, e := Key(span(1), n, i)
			refuses(t, fmt.Sprintf("Key %d of %d", i, n), got, e)
		}
	}
	for _, n := range []int{1, 2, 8, api.MaxKeys - 1, api.MaxKeys} {
		for _, i := range slices.Concat(below0(), tooMany(), []int{n + 1, n + 2}) {
			got, e := Key(span(1), n, i)
			refuses(t, fmt.Sprintf("Key %d of %d", i, n), got, e)
		}
	}
	for _, seed := range noKeys() {
		for _, n := range []int{-1, 0, 1, 8, api.MaxKeys, api.MaxKeys + 1} {
			for _, i := range []int{-1, 0, 1, n, n + 1} {
				got, e := Key(seed, n, i)
				refuses(t, "Key of no seed", got, e)
			}
		}
	}
}

// P14.1: the places at the ends of the least and of the greatest chain.
func TestKeyEnds(t *testing.T) {
	for _, n := range []int{1, api.MaxKeys} {
		want := twin(span(1), n)
		for _, i := range []int{0, 1, n - 1, n} {
			got, e := Key(span(1), n, i)
			tells(t, fmt.Sprintf("Key %d of %d", i, n), got, e, want[i])
		}
	}
}

// P14.1, P1, P6: Back of what is no key, or by steps that can't be; no step is one that can be.
func TestBackRefuses(t *testing.T) {
	bad := slices.Concat(below0(), tooMany())
	for _, n := range bad {
		got, e := Back(span(1), n)
		refuses(t, fmt.Sprintf("Back by %d", n), got, e)
	}
	for _, key := range noKeys() {
		for _, n := range append(bad, 0, 1, api.MaxKeys) {
			got, e := Back(key, n)
			refuses(t, "Back of no key", got, e)
		}
	}
	got, e := Back(span(1), 0)
	tells(t, "Back by nothing", got, e, span(1))
}

// P14.2, P14.3: each key of a chain follows each one ahead, itself too; a key that is older than what is known does not.
func TestFollowsChain(t *testing.T) {
	keys := all(t, span(3), 24)
	for i, known := range keys {
		for j, key := range keys {
			want := api.OK
			if j < i {
				want = api.ErrOld
			}
			follows(t, i, known, j, key, want)
		}
	}
}

// P14.2, P14.3: no key of a chain is taken for another one of it, whatever the places: only those that are as far apart as they say.
func TestFollowsWrongPlace(t *testing.T) {
	keys := all(t, span(3), 9)
	for i := range keys {
		for j := range keys {
			for a, known := range keys {
				for b, key := range keys {
					want := api.ErrKey
					if j < i {
						want = api.ErrOld
					} else if b-a == j-i {
						want = api.OK
					}
					follows(t, i, known, j, key, want)
				}
			}
		}
	}
}

// P14.2: which keys are held against each other hangs on how far they are apart alone, as far as the last place.
func TestFollowsFar(t *testing.T) {
	keys := all(t, span(3), api.MaxKeys)
	for _, i := range []int{0, 1, 100, api.MaxKeys - 1, api.MaxKeys} {
		for _, j := range []int{i, i + 1, i + 2, i + 100, api.MaxKeys - 1, api.MaxKeys} {
			if j < i || j > api.MaxKeys {
				continue
			}
			follows(t, i, keys[i], j, keys[j], api.OK)
			follows(t, 0, keys[i], j-i, keys[j], api.OK)
			if i != j {
				follows(t, i, keys[j], j, keys[i], api.ErrKey)
				follows(t, j, keys[j], i, keys[i], api.ErrOld)
				follows(t, j, keys[i], i, keys[j], api.ErrOld)
				follows(t, i, keys[i], j, keys[j-1], api.ErrKey)
			}
		}
	}
}

// P14.2: j just below i, at i, just above it, at both ends.
func TestFollowsNear(t *testing.T) {
	keys := all(t, span(3), api.MaxKeys)
	for _, i := range []int{1, 2, 128, api.MaxKeys - 1} {
		follows(t, i, keys[i], i-1, keys[i-1], api.ErrOld)
		follows(t, i, keys[i], i, keys[i], api.OK)
		follows(t, i, keys[i], i, keys[i-1], api.ErrKey)
		follows(t, i, keys[i], i, keys[i+1], api.ErrKey)
		follows(t, i, keys[i], i+1, keys[i+1], api.OK)
		follows(t, i, keys[i], i+1, keys[i], api.ErrKey)
	}
	follows(t, 0, keys[0], 0, keys[0], api.OK)
	follows(t, 0, keys[0], 1, keys[1], api.OK)
	follows(t, 0, keys[0], api.MaxKeys, keys[api.MaxKeys], api.OK)
	follows(t, api.MaxKeys, keys[api.MaxKeys], api.MaxKeys, keys[api.MaxKeys], api.OK)
	follows(t, api.MaxKeys, keys[api.MaxKeys], api.MaxKeys-1, keys[api.MaxKeys-1], api.ErrOld)
	follows(t, api.MaxKeys, keys[api.MaxKeys], 0, keys[0], api.ErrOld)
}

// P14.2, P14.3: a key with any one bit turned, and a known one with any one bit turned.
func TestFollowsTurnedBit(t *testing.T) {
	keys := all(t, span(3), 8)
	for bit := range 8 * api.KeyBytes {
		for _, j := range []int{2, 3, 8} {
			key, known := slices.Clone(keys[j]), slices.Clone(keys[2])
			key[bit/8] ^= 1 << (bit % 8)
			known[bit/8] ^= 1 << (bit % 8)
			follows(t, 2, keys[2], j, key, api.ErrKey)
			follows(t, 2, known, j, keys[j], api.ErrKey)
			// Both turned are the same key again, which is all that is asked at the same place.
			want := api.ErrKey
			if j == 2 {
				want = api.OK
			}
			follows(t, 2, known, j, key, want)
		}
	}
}

// P14.3: a key of another chain, at its right place and at others; of another epoch, of another number of keys.
func TestFollowsOtherChain(t *testing.T) {
	one, _ := Seed(span(0), 7)
	two, _ := Seed(span(0), 8)
	three, _ := Seed(span(1), 7)
	keys := all(t, one, 12)
	for _, other := range [][][]byte{all(t, two, 12), all(t, three, 12), all(t, span(0), 12)} {
		for i := range keys {
			for j := i; j < len(keys); j++ {
				follows(t, i, keys[i], j, other[j], api.ErrKey)
				follows(t, i, other[i], j, keys[j], api.ErrKey)
				follows(t, i, other[i], j, other[j], api.OK)
			}
		}
	}
	longer := all(t, one, 13)
	for i := range keys {
		follows(t, 0, keys[0], i, longer[i], api.ErrKey)
	}
}

// P14.3: what steps to the same is taken, whether a chain has it at that place or not.
func TestFollowsSameSteps(t *testing.T) {
	key := text(api.KeyBytes, 9)
	for n := range 20 {
		known, _ := Back(key, n)
		for _, i := range []int{0, 1, 100, api.MaxKeys - n} {
			follows(t, i, known, i+n, key, api.OK)
			if n > 0 {
				follows(t, i, known, i+n-1, key, api.ErrKey)
			}
			if i+n < api.MaxKeys {
				follows(t, i, known, i+n+1, key, api.ErrKey)
			}
		}
	}
}

// P14.2, P1, P2, P6: places that can't be, on either side, and lists that are no keys: ErrArg, ahead of a key that is old or wrong.
func TestFollowsRefuses(t *testing.T) {
	keys := all(t, span(3), api.MaxKeys)
	bad := slices.Concat(below0(), tooMany())
	for _, at := range bad {
		for _, good := range []int{0, 1, 8, api.MaxKeys} {
			follows(t, at, keys[good], good, keys[good], api.ErrArg)
			follows(t, good, keys[good], at, keys[good], api.ErrArg)
		}
		for _, other := range bad {
			follows(t, at, keys[0], other, keys[0], api.ErrArg)
			follows(t, at, nil, other, nil, api.ErrArg)
		}
	}
	for _, b := range noKeys() {
		for _, x := range [][2]int{{0, 0}, {0, 8}, {8, 8}, {8, 0}, {8, 7}, {api.MaxKeys, 0}, {-1, 0}, {0, api.MaxKeys + 1}} {
			follows(t, x[0], b, x[1], keys[max(x[1], 0)%257], api.ErrArg)
			follows(t, x[0], keys[max(x[0], 0)], x[1], b, api.ErrArg)
			follows(t, x[0], b, x[1], b, api.ErrArg)
		}
	}
}

// P2: a key that is old and wrong as well is old.
func TestFollowsOrder(t *testing.T) {
	keys := all(t, span(3), 8)
	follows(t, 5, keys[5], 4, keys[7], api.ErrOld)
	follows(t, 5, keys[5], 4, text(api.KeyBytes, 2), api.ErrOld)
	follows(t, 5, keys[5], 4, keys[5], api.ErrOld)
	follows(t, 5, keys[5], 0, keys[0], api.ErrOld)
}

// P3: nil and empty lists are the same.
func TestNilAndEmpty(t *testing.T) {
	for _, b := range [][]byte{nil, {}, span(0)[:0]} {
		got, e := Seed(b, 1)
		refuses(t, "Seed", got, e)
		got, e = Key(b, 8, 1)
		refuses(t, "Key", got, e)
		got, e = Back(b, 1)
		refuses(t, "Back", got, e)
		got, e = Back(b, 0)
		refuses(t, "Back by nothing", got, e)
		if keys, e := All(b, 8); len(keys) != 0 || e != api.ErrArg {
			t.Errorf("All = %x, %v", keys, e)
		}
		for _, c := range [][]byte{nil, {}} {
			follows(t, 0, b, 0, c, api.ErrArg)
		}
	}
}

// room is a key with bytes behind it that are the caller's.
func room(key []byte) []byte {
	b := append(slices.Clone(key), bytes.Repeat([]byte{0xee}, 64)...)
	return b[:len(key)]
}

// P4: what is handed in is as it was, and so is the memory behind it.
func TestHandedInUnchanged(t *testing.T) {
	keys := all(t, span(3), 8)
	calls := []func(b []byte){
		func(b []byte) { Seed(b, 3) },
		func(b []byte) { Key(b, 8, 0) },
		func(b []byte) { Key(b, 8, 8) },
		func(b []byte) { All(b, 8) },
		func(b []byte) { Back(b, 0) },
		func(b []byte) { Back(b, 4) },
		func(b []byte) { Follows(2, b, 6, keys[6]) },
		func(b []byte) { Follows(2, keys[2], 6, b) },
		func(b []byte) { Follows(6, b, 6, b) },
	}
	for at, call := range calls {
		for _, key := range [][]byte{keys[2], keys[6], span(3)} {
			b := room(key)
			call(b)
			if want := room(key); !bytes.Equal(b[:cap(want)], want[:cap(want)]) {
				t.Errorf("call %d changed what was handed in", at)
			}
		}
	}
}

// spoil changes a list that was told, and the memory behind it.
func spoil(b []byte) {
	for i := range b[:cap(b)] {
		b[:cap(b)][i] ^= 0xff
	}
}

// P4: what is told is new memory: changed later, it changes neither what was handed in nor another answer.
func TestToldIsNew(t *testing.T) {
	seed, want := span(3), twin(span(3), 8)
	calls := map[string]func() []byte{
		"Seed":            func() []byte { b, _ := Seed(seed, 5); return b },
		"Key":             func() []byte { b, _ := Key(seed, 8, 3); return b },
		"the last key":    func() []byte { b, _ := Key(seed, 8, 8); return b },
		"Back":            func() []byte { b, _ := Back(seed, 3); return b },
		"Back by nothing": func() []byte { b, _ := Back(seed, 0); return b },
	}
	for name, call := range calls {
		first := call()
		kept := slices.Clone(first)
		spoil(first)
		if again := call(); !bytes.Equal(again, kept) || !bytes.Equal(seed, span(3)) {
			t.Errorf("%s hangs on what was told", name)
		}
	}
	for at := range want {
		keys := all(t, seed, 8)
		spoil(keys[at])
		for i, key := range keys {
			if i != at && !bytes.Equal(key, want[i]) {
				t.Errorf("key %d was changed with key %d", i, at)
			}
		}
		clear(keys)
		for i, key := range all(t, seed, 8) {
			tells(t, "All again", key, api.OK, want[i])
		}
	}
}

// P4: what is handed in and changed later changes no answer that was told.
func TestHandedInNotKept(t *testing.T) {
	seed, want := span(3), twin(span(3), 8)
	keys := all(t, seed, 8)
	none, _ := Back(seed, 0)
	spoil(seed)
	for i, key := range keys {
		tells(t, "All", key, api.OK, want[i])
	}
	tells(t, "Back by nothing", none, api.OK, span(3))
}

// P5: the same call tells the same, whatever was asked ahead of it; where the bytes lie and what is behind them does not count.
func TestSameAgain(t *testing.T) {
	want := twin(span(3), 30)
	for range 3 {
		for i := range want {
			got, e := Key(room(span(3)), 30, i)
			tells(t, "Key", got, e, want[i])
			follows(t, 0, room(want[0]), i, room(want[i]), api.OK)
			Back(span(4), i)
			Key(span(4), 0, i)
		}
	}
}

// P14.1 to P14.3, P1: whatever is asked, the twin tells the same.
func FuzzAll(f *testing.F) {
	f.Add(span(3), span(4), 8, 5, 2)
	f.Add([]byte{}, []byte{1}, 0, 0, 0)
	f.Add(span(0), span(0), api.MaxKeys, api.MaxKeys, 0)
	f.Add(span(0), span(1)[:15], api.MaxKeys+1, -1, 65536)
	f.Fuzz(func(t *testing.T, a []byte, b []byte, n int, i int, j int) {
		isKey := len(a) == api.KeyBytes
		place := func(k int) bool { return k >= 0 && k <= api.MaxKeys }

		got, e := Seed(a, j)
		if isKey && j >= 0 && j < 1<<16 {
			tells(t, "Seed", got, e, derived(a, "epoch", uint64(j)))
		} else {
			refuses(t, "Seed", got, e)
		}

		keys, e := All(a, n)
		var want [][]byte
		if isKey && place(n) && n > 0 {
			want = twin(a, n)
		}
		if !slices.EqualFunc(keys, want, bytes.Equal) || (e == api.OK) != (want != nil) || e != api.OK && e != api.ErrArg {
			t.Errorf("All(%x, %d) = %x, %v", a, n, keys, e)
		}

		got, e = Key(a, n, i)
		if want != nil && i >= 0 && i <= n {
			tells(t, "Key", got, e, want[i])
		} else {
			refuses(t, "Key", got, e)
		}

		got, e = Back(a, n)
		if isKey && place(n) {
			stepped := a
			for range n {
				stepped = derived(stepped, "chain")
			}
			tells(t, "Back", got, e, stepped)
		} else {
			refuses(t, "Back", got, e)
		}
		fuzzFollows(t, a, b, i, j)
	})
}

// fuzzFollows holds Follows against what the twin's steps tell.
func fuzzFollows(t *testing.T, known []byte, key []byte, i int, j int) {
	want := api.ErrArg
	if min(i, j) >= 0 && max(i, j) <= api.MaxKeys && len(known) == api.KeyBytes && len(key) == api.KeyBytes {
		want = api.ErrOld
	}
	if want == api.ErrOld && j >= i {
		stepped := key
		for range j - i {
			stepped = derived(stepped, "chain")
		}
		follows(t, i, stepped, j, key, api.OK)
		want = api.ErrKey
		if bytes.Equal(stepped, known) {
			want = api.OK
		}
	}
	follows(t, i, known, j, key, want)
}
