package rehashes

import (
	"math"
	"math/big"
	"slices"
	"testing"

	"layby/api"
	"layby/lines"
)

// greatest address.
const greatest api.Addr = math.MaxUint32

// tables: all numbers of bits of which there is one.
func tables() []int { return []int{2, 3, 4, 5, 6, 7, 8} }

// sizes of the tables, by their bits.
func sizes() map[int]int {
	return map[int]int{2: 4, 3: 8, 4: 16, 5: 32, 6: 64, 7: 128, 8: 256}
}

// noTables: numbers of bits of which there is none; among them some that are one behind their low bits.
func noTables() []int {
	return []int{
		1, 0, -1, -2, -8, 9, 10, 16, 31, 32, 34, 62, 63, 64, 65, 66, 72, 127, 128, 130, 255, 256, 258, 264, 65536 + 2, -62, -64, -254,
		1 << 31, 1 << 32, 1<<32 + 2, 1<<32 + 8, 1 << 62, -1 << 31, -1 << 32, 2 - 1<<32, math.MaxInt - 1, math.MaxInt, math.MinInt, math.MinInt + 2,
	}
}

// home of a key: the bucket that it hashes to, worked out by whole numbers of any length.
func home(key api.Addr, bits int) int {
	factor, _ := new(big.Int).SetString("11400714819323198485", 10)
	product := new(big.Int).Mul(new(big.Int).SetUint64(uint64(key)), factor)
	product.Mod(product, new(big.Int).Exp(big.NewInt(2), big.NewInt(64), nil))
	product.Div(product, new(big.Int).Exp(big.NewInt(2), big.NewInt(int64(64-bits)), nil))
	return int(product.Int64())
}

// allEntries of queues, bucket by bucket, as they stand.
func allEntries(queues [][]lines.Entry) []lines.Entry {
	var out []lines.Entry
	for _, queue := range queues {
		out = append(out, queue...)
	}
	return out
}

// told: what the chapter's words make of queues: of each bucket those that hash to it, bucket by bucket, as they stand.
func told(queues [][]lines.Entry, bits int) [][]lines.Entry {
	out := make([][]lines.Entry, sizes()[bits])
	homes := map[api.Addr]int{}
	for _, e := range allEntries(queues) {
		at, ok := homes[e.Key]
		if !ok {
			at = home(e.Key, bits)
			homes[e.Key] = at
		}
		out[at] = append(out[at], e)
	}
	return out
}

// same queues, as many, in order.
func same(one, other [][]lines.Entry) bool {
	return slices.EqualFunc(one, other, slices.Equal[[]lines.Entry])
}

// deep copy of queues.
func deep(queues [][]lines.Entry) [][]lines.Entry {
	out := slices.Clone(queues)
	for i, queue := range queues {
		out[i] = slices.Clone(queue)
	}
	return out
}

// entry the nth one, of a key: no other has its thread, or its token.
func entry(n int, key api.Addr) lines.Entry {
	return lines.Entry{Thread: n, Key: key, Token: math.MaxUint64 - uint64(n)}
}

// queueOf these keys.
func queueOf(keys ...api.Addr) []lines.Entry {
	var out []lines.Entry
	for i, key := range keys {
		out = append(out, entry(i, key))
	}
	return out
}

// scattered: so many entries in so many queues, anywhere, of so many keys.
func scattered(queues, entries, keys int) [][]lines.Entry {
	out := make([][]lines.Entry, queues)
	for n := range entries {
		at := n * 7 * (n/3 + 1) % queues
		key := api.Addr(n * n * 5 % keys * 3)
		if n%11 == 10 {
			key = greatest - key
		}
		out[at] = append(out[at], entry(n, key))
	}
	return out
}

// short queues: all of up to so many entries of three keys, cut into queues in each way.
func short(most int) [][][]lines.Entry {
	out := [][][]lines.Entry{nil}
	last := out
	for n := range most {
		var longer [][][]lines.Entry
		for _, queues := range last {
			for _, key := range []api.Addr{0, 1, 2} {
				apart := append(deep(queues), []lines.Entry{entry(n, key)})
				longer = append(longer, apart)
				if len(queues) > 0 {
					beside := deep(queues)
					beside[len(beside)-1] = append(beside[len(beside)-1], entry(n, key))
					longer = append(longer, beside)
				}
			}
		}
		out = append(out, longer...)
		last = longer
	}
	return out
}

// many: queues of all sorts.
func many() [][][]lines.Entry {
	out := [][][]lines.Entry{
		nil,
		{},
		{nil},
		{{}},
		{nil, {}, nil},
		make([][]lines.Entry, 4),
		make([][]lines.Entry, 256),
		make([][]lines.Entry, 300),
		{queueOf(0)},
		{queueOf(greatest, 0, greatest, 1<<31, greatest-1)},
		{nil, nil, queueOf(3, 3, 1, 3), nil, queueOf(1, 3), {}},
		{{{Thread: -1}, {Thread: math.MinInt, Key: 9, Token: 5}, {Thread: math.MaxInt, Key: greatest, Token: math.MaxUint64}, {Thread: -1}}},
	}
	for _, queues := range []int{1, 2, 3, 4, 5, 7, 8, 9, 16, 31, 64, 128, 255, 256, 257, 600} {
		for _, entries := range []int{1, 3, 10, 64, 500} {
			out = append(out, scattered(queues, entries, 97), scattered(queues, entries, 1000003))
		}
		out = append(out, scattered(queues, 40, 1), scattered(queues, 40, 2))
	}
	for _, bits := range tables() {
		out = append(out, told(scattered(5, 200, 997), bits), told(scattered(3, 9, 31), bits))
	}
	return out
}

// P9.1: each entry is put behind its bucket's queue, bucket by bucket, as they stand.
func TestRehash(t *testing.T) {
	for i, queues := range many() {
		for _, bits := range tables() {
			if got, want := Rehash(queues, bits), told(queues, bits); !same(got, want) {
				t.Fatalf("queues %d by %d bits: got %v, want %v", i, bits, got, want)
			}
		}
	}
}

// P9.1: all short queues.
func TestRehashShort(t *testing.T) {
	for _, queues := range short(5) {
		for _, bits := range []int{2, 3} {
			if got, want := Rehash(queues, bits), told(queues, bits); !same(got, want) {
				t.Fatalf("%v by %d bits: got %v, want %v", queues, bits, got, want)
			}
		}
	}
}

// P9.1: some queues, written out.
func TestRehashWrittenOut(t *testing.T) {
	// By 2 bits the keys 0 and 2 hash to 0, 1 and 64 to 2, 3 to 3; by 3 bits 0 to 0, 2 to 1, 1 and 64 to 4, 3 to 6.
	queues := [][]lines.Entry{
		{{Thread: 5, Key: 64, Token: 1}, {Thread: 4, Key: 2, Token: 2}},
		nil,
		{{Thread: 9, Key: 3, Token: 3}, {Thread: 1, Key: 1, Token: 4}, {Thread: 2, Key: 0, Token: 5}},
		{{Thread: 8, Key: 1, Token: 0}, {Thread: 5, Key: 2, Token: 2}},
	}
	for bits, want := range map[int][][]lines.Entry{
		2: {
			{{Thread: 4, Key: 2, Token: 2}, {Thread: 2, Key: 0, Token: 5}, {Thread: 5, Key: 2, Token: 2}},
			nil,
			{{Thread: 5, Key: 64, Token: 1}, {Thread: 1, Key: 1, Token: 4}, {Thread: 8, Key: 1, Token: 0}},
			{{Thread: 9, Key: 3, Token: 3}},
		},
		3: {
			{{Thread: 2, Key: 0, Token: 5}},
			{{Thread: 4, Key: 2, Token: 2}, {Thread: 5, Key: 2, Token: 2}},
			nil,
			nil,
			{{Thread: 5, Key: 64, Token: 1}, {Thread: 1, Key: 1, Token: 4}, {Thread: 8, Key: 1, Token: 0}},
			nil,
			{{Thread: 9, Key: 3, Token: 3}},
			nil,
		},
	} {
		if got := Rehash(queues, bits); !same(got, want) {
			t.Errorf("by %d bits: got %v, want %v", bits, got, want)
		}
	}
}

// P9.1: entries of one key, in one queue and in several: in the order bucket by bucket, as they stand.
func TestRehashOneKey(t *testing.T) {
	for _, bits := range tables() {
		for _, key := range []api.Addr{0, 1, 3, 256, 1024, 1156, greatest} {
			in := []lines.Entry{entry(6, key), entry(2, key), entry(9, key), entry(1, key), entry(2, key), entry(7, key)}
			for _, queues := range [][][]lines.Entry{
				{in},
				{nil, in, nil},
				{in[:1], in[1:4], in[4:]},
				{in[:3], nil, nil, in[3:4], {}, in[4:], nil},
				{in[:1], in[1:2], in[2:3], in[3:4], in[4:5], in[5:]},
			} {
				got := Rehash(queues, bits)
				if len(got) != sizes()[bits] {
					t.Fatalf("%d bits: %d queues", bits, len(got))
				}
				for bucket, queue := range got {
					if bucket == home(key, bits) && !slices.Equal(queue, in) || bucket != home(key, bits) && len(queue) != 0 {
						t.Fatalf("key %d, %d bits, bucket %d: %v", key, bits, bucket, queue)
					}
				}
			}
		}
	}
}

// P9.1: as many queues as the table has buckets, also where nobody stands in one.
func TestRehashAsMany(t *testing.T) {
	for bits, size := range sizes() {
		for i, queues := range [][][]lines.Entry{nil, {}, {nil}, {{}, {}}, make([][]lines.Entry, 3), make([][]lines.Entry, 1000), {queueOf(7)}} {
			got := Rehash(queues, bits)
			if len(got) != size {
				t.Errorf("queues %d by %d bits: %d queues", i, bits, len(got))
			}
			if n := len(allEntries(got)); n != len(allEntries(queues)) {
				t.Errorf("queues %d by %d bits: %d entries", i, bits, n)
			}
		}
	}
}

// P9.1: of no such table there are none.
func TestRehashNoTable(t *testing.T) {
	for _, bits := range noTables() {
		for i, queues := range many() {
			if got := Rehash(queues, bits); len(got) != 0 {
				t.Errorf("queues %d by %d bits: %d queues", i, bits, len(got))
			}
		}
	}
}

// withRoom: the same queues in memory that has room behind each one, and behind all; with what stands in that room.
func withRoom(queues [][]lines.Entry) (roomy, whole [][]lines.Entry) {
	for _, queue := range queues {
		whole = append(whole, append(slices.Clone(queue), entry(-7, 7), entry(-8, 8)))
	}
	whole = append(whole, queueOf(5), queueOf(6))
	roomy = slices.Clone(whole)
	for i, queue := range queues {
		roomy[i] = whole[i][:len(queue)]
	}
	return roomy[:len(queues)], whole
}

// P9.1, P9.2: what is handed in stays as it was, the room behind it, too.
func TestHandedInStays(t *testing.T) {
	for i, queues := range many() {
		roomy, whole := withRoom(queues)
		was, wasWhole := deep(queues), deep(whole)
		behind := deep(roomy[:cap(roomy)][len(queues):])
		for _, bits := range append(tables(), 1, 9) {
			Rehash(roomy, bits)
			Placed(roomy, bits)
		}
		if !same(roomy, was) || !same(whole, wasWhole) || !same(roomy[:cap(roomy)][len(queues):], behind) {
			t.Fatalf("queues %d are not as they were", i)
		}
	}
}

// P9.1: what is told has no room behind.
func TestRehashNoRoom(t *testing.T) {
	for i, queues := range many() {
		for _, bits := range tables() {
			got := Rehash(queues, bits)
			if cap(got) != len(got) {
				t.Fatalf("queues %d by %d bits: room for %d queues", i, bits, cap(got))
			}
			for bucket, queue := range got {
				if cap(queue) != len(queue) {
					t.Fatalf("queues %d by %d bits, bucket %d: room for %d", i, bits, bucket, cap(queue))
				}
			}
		}
	}
}

// P9.1: what is stored in what was handed in changes nothing that was told.
func TestRehashOfItsOwn(t *testing.T) {
	for i, queues := range many() {
		for _, bits := range tables() {
			in := deep(queues)
			got, want := Rehash(in, bits), told(queues, bits)
			for at, queue := range in {
				for n := range queue {
					queue[n] = entry(-1, 1)
				}
				in[at] = nil
			}
			if !same(got, want) {
				t.Fatalf("queues %d by %d bits: told is what was stored", i, bits)
			}
		}
	}
}

// P9.1: what is stored in, or appended to, one that was told changes no other, and nothing that was handed in, or told another time.
func TestRehashSharesNothing(t *testing.T) {
	for i, queues := range many() {
		for _, bits := range []int{2, 3, 8} {
			in := deep(queues)
			got, again, want := Rehash(in, bits), Rehash(in, bits), told(queues, bits)
			for bucket := range got {
				got[bucket] = append(got[bucket], entry(-2, 2))
				for n := range got[bucket] {
					got[bucket][n] = entry(-1, greatest)
				}
				if !same(got[bucket+1:], want[bucket+1:]) {
					t.Fatalf("queues %d by %d bits: bucket %d changes one behind it", i, bits, bucket)
				}
			}
			for bucket, queue := range got {
				for _, e := range queue {
					if e != entry(-1, greatest) {
						t.Fatalf("queues %d by %d bits: bucket %d was changed by another", i, bits, bucket)
					}
				}
			}
			if !same(in, queues) || !same(again, want) {
				t.Fatalf("queues %d by %d bits: what was told is shared", i, bits)
			}
		}
	}
}

// asPlaced: what the chapter's words say of queues.
func asPlaced(queues [][]lines.Entry, bits int) bool {
	size, ok := sizes()[bits]
	if !ok || len(queues) != size {
		return false
	}
	strays := 0
	for bucket, queue := range queues {
		for _, e := range queue {
			if home(e.Key, bits) != bucket {
				strays++
			}
		}
	}
	return strays == 0
}

// P9.2: queues of all sorts.
func TestPlaced(t *testing.T) {
	for i, queues := range many() {
		for _, bits := range append(tables(), 1, 9) {
			if got, want := Placed(queues, bits), asPlaced(queues, bits); got != want {
				t.Errorf("queues %d by %d bits: %v, want %v", i, bits, got, want)
			}
		}
	}
}

// P9.2: all short queues, with empty ones behind, so that they are as many as there are buckets.
func TestPlacedShort(t *testing.T) {
	for _, queues := range short(4) {
		for ahead := range 5 - len(queues) {
			all := append(make([][]lines.Entry, ahead), queues...)
			all = append(all, make([][]lines.Entry, 4-len(all))...)
			if got, want := Placed(all, 2), asPlaced(all, 2); got != want {
				t.Errorf("%v: %v, want %v", all, got, want)
			}
		}
	}
}

// P9.2: in no table nothing is placed: no queues neither, and none that are as many as its bits' power would say.
func TestPlacedNoTable(t *testing.T) {
	for _, bits := range noTables() {
		for _, queues := range [][][]lines.Entry{nil, {}, {nil}, {nil, nil}, make([][]lines.Entry, 4), make([][]lines.Entry, 256), make([][]lines.Entry, 512), make([][]lines.Entry, 1024), {queueOf(0)}, {queueOf(0), queueOf(1)}} {
			if Placed(queues, bits) {
				t.Errorf("%d queues are placed by %d bits", len(queues), bits)
			}
		}
	}
}

// P9.2: one queue too few, or too many, and other numbers of them.
func TestPlacedHowMany(t *testing.T) {
	for bits, size := range sizes() {
		for _, n := range []int{0, 1, size / 2, size - 1, size, size + 1, 2 * size, 256 + size, 1024} {
			queues := make([][]lines.Entry, n)
			if Placed(queues, bits) != (n == size) {
				t.Errorf("%d empty queues by %d bits", n, bits)
			}
			if n > 0 {
				queues[0] = queueOf(0, 0)
				if Placed(queues, bits) != (n == size) {
					t.Errorf("%d queues by %d bits, two entries in the first one", n, bits)
				}
			}
		}
		full := told(scattered(3, 400, 1000003), bits)
		if !Placed(full, bits) || Placed(full[:size-1], bits) || Placed(full[1:], bits) || Placed(append(full, nil), bits) || Placed(append([][]lines.Entry{nil}, full...), bits) {
			t.Errorf("%d bits: one queue too few, or too many, is not told", bits)
		}
	}
}

// P9.2: an entry in a wrong place, in each queue, ahead of, between and behind ones that are right.
func TestPlacedStray(t *testing.T) {
	for bits, size := range sizes() {
		full := told(scattered(3, 4*size, 1000003), bits)
		for bucket := range full {
			for _, key := range []api.Addr{0, 1, 2, 3, 1024, greatest} {
				right := home(key, bits) == bucket
				for _, at := range []int{0, len(full[bucket]) / 2, len(full[bucket])} {
					queues := slices.Clone(full)
					queues[bucket] = slices.Insert(slices.Clone(full[bucket]), at, entry(-1, key))
					if Placed(queues, bits) != right {
						t.Fatalf("%d bits: key %d at %d of bucket %d", bits, key, at, bucket)
					}
				}
				alone := make([][]lines.Entry, size)
				alone[bucket] = queueOf(key)
				if Placed(alone, bits) != right {
					t.Fatalf("%d bits: key %d alone in bucket %d", bits, key, bucket)
				}
			}
		}
	}
}

// P9.2: where entries hash to is told by their keys alone, and by the bits that are asked for.
func TestPlacedByKeys(t *testing.T) {
	for bits, size := range sizes() {
		queues := make([][]lines.Entry, size)
		at := home(7, bits)
		for n := range size {
			queues[at] = append(queues[at], lines.Entry{Thread: n * n, Key: 7, Token: uint64(n)})
		}
		if !Placed(queues, bits) {
			t.Errorf("%d bits: entries of one key, in its bucket", bits)
		}
		slices.Reverse(queues)
		if Placed(queues, bits) {
			t.Errorf("%d bits: entries of one key, in another bucket", bits)
		}
	}
}

// P9.3: what is rehashed is placed, in that table and in no other.
func TestRehashedIsPlaced(t *testing.T) {
	for i, queues := range many() {
		for _, bits := range tables() {
			got := Rehash(queues, bits)
			for _, asked := range append(tables(), 1, 9) {
				if Placed(got, asked) != (asked == bits) {
					t.Errorf("queues %d by %d bits, placed by %d: %v", i, bits, asked, asked != bits)
				}
			}
		}
	}
}

// counted: how often each entry stands in queues.
func counted(queues [][]lines.Entry) map[lines.Entry]int {
	out := map[lines.Entry]int{}
	for _, e := range allEntries(queues) {
		out[e]++
	}
	return out
}

// P9.3: nobody comes, or goes; who stands there twice stands there twice.
func TestNobodyComesOrGoes(t *testing.T) {
	for i, queues := range append(many(), [][]lines.Entry{queueOf(1, 2, 1), queueOf(1, 2, 1), nil, queueOf(1)}) {
		was := counted(queues)
		for _, bits := range tables() {
			now := counted(Rehash(queues, bits))
			if len(now) != len(was) {
				t.Fatalf("queues %d by %d bits: %d of %d", i, bits, len(now), len(was))
			}
			for e, n := range was {
				if now[e] != n {
					t.Fatalf("queues %d by %d bits: %v stands %d times, was %d", i, bits, e, now[e], n)
				}
			}
		}
	}
}

// ofKey: the entries of a key, as they stand.
func ofKey(queue []lines.Entry, key api.Addr) []lines.Entry {
	var out []lines.Entry
	for _, e := range queue {
		if e.Key == key {
			out = append(out, e)
		}
	}
	return out
}

// within: does each one of these stand in a queue, in that order?
func within(queue, these []lines.Entry) bool {
	for _, e := range queue {
		if len(these) > 0 && e == these[0] {
			these = these[1:]
		}
	}
	return len(these) == 0
}

// P9.3: entries of one key that stood in one queue stand in the order in which they stood.
func TestOrderOfOneKey(t *testing.T) {
	for _, queues := range [][][]lines.Entry{scattered(1, 300, 7), scattered(4, 300, 5), scattered(9, 300, 31), {queueOf(3, 1, 3, 0, 1, 3), queueOf(3, 3, 0)}} {
		for _, bits := range tables() {
			got := Rehash(queues, bits)
			for _, queue := range queues {
				for _, e := range queue {
					if these := ofKey(queue, e.Key); !within(got[home(e.Key, bits)], these) {
						t.Fatalf("%d bits, key %d: %v is not in order", bits, e.Key, these)
					}
				}
			}
		}
	}
}

// P9.3: rehashed by one bit more, placed queues part, each into two, in order.
func TestOneBitMore(t *testing.T) {
	for i, queues := range many() {
		for bits := 2; bits < 8; bits++ {
			placed := Rehash(queues, bits)
			parted := Rehash(placed, bits+1)
			for bucket, queue := range placed {
				two := parted[2*bucket : 2*bucket+2]
				if len(two[0])+len(two[1]) != len(queue) || !within(queue, two[0]) || !within(queue, two[1]) {
					t.Fatalf("queues %d, %d bits, bucket %d: %v from %v", i, bits, bucket, two, queue)
				}
			}
		}
	}
}

// P9.3: placed queues, rehashed twice, by more bits each time, are as rehashed once to the last one.
func TestTwice(t *testing.T) {
	for i, queues := range many() {
		for bits := 2; bits <= 8; bits++ {
			placed := told(queues, bits)
			for more := bits; more <= 8; more++ {
				between := Rehash(placed, more)
				for last := more; last <= 8; last++ {
					if twice, once := Rehash(between, last), Rehash(placed, last); !same(twice, once) {
						t.Fatalf("queues %d, by %d, %d and %d bits: %v, once %v", i, bits, more, last, twice, once)
					}
				}
			}
			if !same(Rehash(placed, bits), placed) {
				t.Fatalf("queues %d: placed ones by their own %d bits are others", i, bits)
			}
		}
	}
}

// P9.1: the chapter's examples.
func TestExamples(t *testing.T) {
	queues := [][]lines.Entry{{{Thread: 1, Key: 0}, {Thread: 2, Key: 1}}}
	want := [][]lines.Entry{{{Thread: 1, Key: 0}}, nil, {{Thread: 2, Key: 1}}, nil}
	if got := Rehash(queues, 2); !same(got, want) {
		t.Errorf("got %v", got)
	}
	if Placed(queues, 2) || !Placed(want, 2) {
		t.Error("placed")
	}
}
