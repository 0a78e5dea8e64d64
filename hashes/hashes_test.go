package hashes

import (
	"math"
	"math/big"
	"testing"

	"layby/api"
)

// greatest address.
const greatest api.Addr = math.MaxUint32

// noBits: numbers of bits of which there is no table; among them what is one behind its low bits.
func noBits() []int {
	out := []int{
		63, 64, 65, 66, 72, 127, 128, 130, 136, 255, 256, 258, 264, 65536 + 2, 1 << 31, 1<<32 - 1, 1 << 32, 1<<32 + 2, 1<<32 + 8, 1 << 62,
		-62, -64, -128, -248, -254, -1 << 31, -1 << 32, 2 - 1<<32, 8 - 1<<32,
		math.MaxInt - 1, math.MaxInt, math.MinInt, math.MinInt + 2, math.MinInt + 8,
	}
	for bits := -20; bits < 2; bits++ {
		out = append(out, bits)
	}
	for bits := 9; bits < 40; bits++ {
		out = append(out, bits)
	}
	return out
}

// noBuckets of a table of so many: beside them on both sides, and far away.
func noBuckets(size int) []int {
	return []int{
		-1, -2, -size, -size - 1, 1 - size, -256, -260, -512, size, size + 1, 2*size - 1, 2 * size, 2*size + 1, size + 256, 1024, 65536,
		1 << 31, 1<<32 - 1, 1 << 32, 1<<32 + 1, -1 << 32, 1 - 1<<32, 1 << 62, math.MaxInt - size, math.MaxInt, math.MinInt, math.MinInt + 1, math.MinInt + size,
	}
}

// sizes of the tables, by their bits.
func sizes() map[int]int {
	return map[int]int{2: 4, 3: 8, 4: 16, 5: 32, 6: 64, 7: 128, 8: 256}
}

// narrow addresses: a factor that is 1 less, or 1 more, gives other buckets for them.
func narrow() []api.Addr {
	return []api.Addr{423553930, 498671539, 799141975, 874259584, 1769333329, 2971215073, 3538666658, 4173096817}
}

// addresses: 0, 1, the greatest one, narrow ones, those of locks, keys and words, those around each power of 2, and some all over between.
func addresses() []api.Addr {
	out := append(narrow(), 0, 1, greatest)
	for a := range api.Addr(2000) {
		out = append(out, a, greatest-a)
	}
	for n := range 32 {
		power := api.Addr(1) << n
		out = append(out, power-1, power, power+1, ^power)
	}
	for a := uint64(0); a <= uint64(greatest); a += 1234577 {
		out = append(out, api.Addr(a))
	}
	return out
}

// upperBits: the hash as the chapter's words tell it, worked out by whole numbers of any length.
func upperBits(a api.Addr, bits int) int {
	factor, _ := new(big.Int).SetString("11400714819323198485", 10)
	product := new(big.Int).Mul(new(big.Int).SetUint64(uint64(a)), factor)
	product.Mod(product, new(big.Int).Exp(big.NewInt(2), big.NewInt(64), nil))
	product.Div(product, new(big.Int).Exp(big.NewInt(2), big.NewInt(int64(64-bits)), nil))
	return int(product.Int64())
}

// leastBits for some threads, as the chapter's words tell them: threads so few that 3 times as many are a number.
func leastBits(threads int) int {
	if threads < 1 {
		return 2
	}
	for bits, size := 2, 4; bits <= 8; bits, size = bits+1, size*2 {
		if size >= 3*threads {
			return bits
		}
	}
	return 8
}

// P7.1: the upper bits of the product, in each table.
func TestHash(t *testing.T) {
	for _, a := range addresses() {
		for bits := range sizes() {
			if got, want := Hash(a, bits), upperBits(a, bits); got != want {
				t.Fatalf("Hash(%d, %d) = %d, want %d", a, bits, got, want)
			}
		}
	}
}

// P7.1: some hashes, written out, in the tables of 2 to 8 bits.
func TestHashWrittenOut(t *testing.T) {
	for a, want := range map[api.Addr][7]int{
		0:             {0, 0, 0, 0, 0, 0, 0},
		1:             {2, 4, 9, 19, 39, 79, 158},
		2:             {0, 1, 3, 7, 15, 30, 60},
		3:             {3, 6, 13, 27, 54, 109, 218},
		64:            {2, 4, 8, 17, 35, 70, 141},
		256:           {0, 1, 3, 6, 13, 27, 55},
		767:           {0, 0, 0, 1, 2, 4, 8},
		1024:          {3, 6, 13, 27, 55, 110, 221},
		1057:          {1, 2, 4, 8, 16, 33, 67},
		1156:          {1, 3, 7, 14, 28, 57, 114},
		1769333329:    {3, 6, 12, 24, 48, 96, 192},
		2971215073:    {3, 7, 15, 31, 63, 127, 255},
		3538666658:    {2, 4, 8, 16, 32, 64, 128},
		4173096817:    {0, 1, 3, 7, 15, 31, 63},
		65536:         {1, 3, 7, 15, 30, 60, 121},
		math.MaxInt32: {0, 1, 2, 4, 8, 16, 33},
		1 << 31:       {2, 5, 11, 23, 47, 95, 191},
		greatest - 1:  {1, 2, 4, 8, 16, 33, 66},
		greatest:      {3, 7, 14, 28, 56, 112, 225},
		api.KeyFirst:  {3, 7, 15, 31, 62, 124, 249},
		api.RwFirst:   {2, 5, 10, 20, 41, 82, 164},
	} {
		for i, bucket := range want {
			if got := Hash(a, i+2); got != bucket {
				t.Errorf("Hash(%d, %d) = %d, want %d", a, i+2, got, bucket)
			}
		}
	}
}

// P7.1: -1 in what is no table, whatever the address.
func TestHashNoTable(t *testing.T) {
	for _, bits := range noBits() {
		for _, a := range []api.Addr{0, 1, 2, 255, 260, 1024, 1 << 31, greatest - 1, greatest} {
			if got := Hash(a, bits); got != -1 {
				t.Errorf("Hash(%d, %d) = %d", a, bits, got)
			}
		}
	}
}

// P7.2: the bits for each number of threads, around each rise of the bits, and further on.
func TestBits(t *testing.T) {
	for threads := -300; threads <= 3000; threads++ {
		if got, want := Bits(threads), leastBits(threads); got != want {
			t.Errorf("Bits(%d) = %d, want %d", threads, got, want)
		}
	}
	for threads, want := range map[int]int{
		-1: 2, 0: 2, 1: 2, 2: 3, 3: 4, 4: 4, 5: 4, 6: 5, 9: 5, 10: 5, 11: 6, 12: 6, 20: 6, 21: 6, 22: 7, 23: 7, 41: 7, 42: 7,
		43: 8, 44: 8, 63: 8, 64: 8, 65: 8, 84: 8, 85: 8, 86: 8, 87: 8, 170: 8, 171: 8, 256: 8, 257: 8, 65536: 8,
	} {
		if got := Bits(threads); got != want {
			t.Errorf("Bits(%d) = %d, want %d", threads, got, want)
		}
	}
}

// P7.2: far beyond the limit they are MaxBits, far below 1 MinBits: also where 3 times as many go round.
func TestBitsFarAway(t *testing.T) {
	const third = math.MaxUint64 / 3
	for _, threads := range []int{
		1 << 31, 1<<32 - 1, 1 << 32, 1<<32 + 1, 1 << 61, 1 << 62, 1<<62 + 1, 3 << 61, third - 1, third, third + 1, third + 2, third + 85,
		math.MaxInt/3 - 1, math.MaxInt / 3, math.MaxInt/3 + 1, math.MaxInt - 1, math.MaxInt,
	} {
		if got := Bits(threads); got != 8 {
			t.Errorf("Bits(%d) = %d, want 8", threads, got)
		}
	}
	for _, threads := range []int{
		-1 << 31, 1 - 1<<32, -1 << 32, 2 - 1<<32, 64 - 1<<32, -1 << 61, -1 << 62, -third - 1, -third, 1 - third, 2 - third, 85 - third,
		math.MinInt / 3, math.MinInt/3 - 1, math.MinInt, math.MinInt + 1, math.MinInt + 64,
	} {
		if got := Bits(threads); got != 2 {
			t.Errorf("Bits(%d) = %d, want 2", threads, got)
		}
	}
}

// P7.2: how many buckets each table has.
func TestSize(t *testing.T) {
	for bits, want := range sizes() {
		if got := Size(bits); got != want {
			t.Errorf("Size(%d) = %d, want %d", bits, got, want)
		}
	}
	for _, bits := range noBits() {
		if got := Size(bits); got != 0 {
			t.Errorf("Size(%d) = %d, of no table", bits, got)
		}
	}
}

// P7.3: each bucket's lock, the first and the last one of each table written out too.
func TestLock(t *testing.T) {
	for bits, size := range sizes() {
		for bucket := range size {
			if got, want := Lock(bits, bucket), api.Addr(256+size+bucket); got != want {
				t.Errorf("Lock(%d, %d) = %d, want %d", bits, bucket, got, want)
			}
		}
	}
	for bits, want := range map[int][2]api.Addr{
		2: {260, 263}, 3: {264, 271}, 4: {272, 287}, 5: {288, 319}, 6: {320, 383}, 7: {384, 511}, 8: {512, 767},
	} {
		if first, last := Lock(bits, 0), Lock(bits, sizes()[bits]-1); first != want[0] || last != want[1] {
			t.Errorf("locks of %d bits: from %d to %d, want %v", bits, first, last, want)
		}
	}
}

// P7.3: 0 for what is no bucket, of a table or of none.
func TestLockNoBucket(t *testing.T) {
	for bits, size := range sizes() {
		for _, bucket := range noBuckets(size) {
			if got := Lock(bits, bucket); bucket != min(max(bucket, 0), size-1) && got != 0 {
				t.Errorf("Lock(%d, %d) = %d", bits, bucket, got)
			}
		}
	}
	for _, bits := range noBits() {
		for _, bucket := range append(noBuckets(4), 0, 1, 2, 3, 4, 255) {
			if got := Lock(bits, bucket); got != 0 {
				t.Errorf("Lock(%d, %d) = %d, of no table", bits, bucket, got)
			}
		}
	}
}

// P7.3: whose lock stands at each address of one, the first and the last one of each table written out too.
func TestOf(t *testing.T) {
	for place := 4; place <= 511; place++ {
		bits, size := 2, 4
		for 2*size <= place {
			bits, size = bits+1, 2*size
		}
		if x, y := Of(api.Addr(256 + place)); x != bits || y != place-size {
			t.Errorf("Of(%d) = %d, %d, want %d, %d", 256+place, x, y, bits, place-size)
		}
	}
	for a, want := range map[api.Addr][2]int{
		260: {2, 0}, 263: {2, 3}, 264: {3, 0}, 271: {3, 7}, 272: {4, 0}, 287: {4, 15}, 288: {5, 0}, 319: {5, 31},
		320: {6, 0}, 383: {6, 63}, 384: {7, 0}, 511: {7, 127}, 512: {8, 0}, 767: {8, 255},
	} {
		if x, y := Of(a); x != want[0] || y != want[1] {
			t.Errorf("Of(%d) = %d, %d, want %v", a, x, y, want)
		}
	}
}

// P7.3: at all other addresses nobody's stands.
func TestOfNobodys(t *testing.T) {
	for _, a := range append(addresses(), 1<<8+260, 1<<9+260, 1<<10+260, 1<<16+260, 1<<16+767, 1<<24+511, 1<<31+260, 1<<31+767, greatest-255, greatest-251) {
		if a >= 260 && a <= 767 {
			continue
		}
		if x, y := Of(a); x != -1 || y != -1 {
			t.Errorf("Of(%d) = %d, %d", a, x, y)
		}
	}
	for _, a := range []api.Addr{0, 1, 64, 127, 255, 256, 257, 258, 259, 768, 769, 1023, 1024, greatest} {
		if x, y := Of(a); x != -1 || y != -1 {
			t.Errorf("Of(%d) = %d, %d", a, x, y)
		}
	}
}

// P7.3, P7.4: Of and Lock belong together both ways, and no two buckets' locks stand at one address.
func TestOfAndLockBelongTogether(t *testing.T) {
	at := map[api.Addr][2]int{}
	for bits, size := range sizes() {
		for bucket := range size {
			a := Lock(bits, bucket)
			if x, y := Of(a); x != bits || y != bucket {
				t.Errorf("Of(%d) = %d, %d: it is the lock of %d, %d", a, x, y, bits, bucket)
			}
			if other, is := at[a]; is {
				t.Errorf("at %d stand the locks of %v and of %d, %d", a, other, bits, bucket)
			}
			at[a] = [2]int{bits, bucket}
		}
	}
	for a := range api.Addr(3000) {
		_, is := at[a]
		if is != (a >= api.CellLock+4 && a <= api.CellLock+511) {
			t.Errorf("a lock stands at %d: %v", a, is)
		}
		if bits, bucket := Of(a); is && Lock(bits, bucket) != a || !is && bits != -1 {
			t.Errorf("Of(%d) = %d, %d, whose lock stands at %d", a, bits, bucket, Lock(bits, bucket))
		}
	}
}

// P7.4: each address has one bucket in each table, the same each time it is asked for.
func TestEachAddressHasOneBucket(t *testing.T) {
	for _, a := range addresses() {
		for bits, size := range sizes() {
			first := Hash(a, bits)
			if first < 0 || first >= size {
				t.Fatalf("Hash(%d, %d) = %d, of %d buckets", a, bits, first, size)
			}
			if again := Hash(a, bits); again != first {
				t.Fatalf("Hash(%d, %d) = %d, and then %d", a, bits, first, again)
			}
		}
	}
}

// P7.4: in a table of one bit more each address's bucket is twice what it was, or one more, and each of both is some address's.
func TestOneBitMore(t *testing.T) {
	for bits := 2; bits < 8; bits++ {
		seen := map[int]bool{}
		for a := uint64(0); a <= uint64(greatest); a += 9973 {
			less, more := Hash(api.Addr(a), bits), Hash(api.Addr(a), bits+1)
			if more != 2*less && more != 2*less+1 {
				t.Fatalf("Hash of %d in %d bits is %d, and in one more %d", a, bits, less, more)
			}
			seen[more] = true
		}
		for _, a := range addresses() {
			if less, more := Hash(a, bits), Hash(a, bits+1); more/2 != less {
				t.Fatalf("Hash of %d in %d bits is %d, and in one more %d", a, bits, less, more)
			}
		}
		if len(seen) != 2*sizes()[bits] {
			t.Errorf("in %d bits some address is in each of %d buckets", bits+1, len(seen))
		}
	}
}

// P7.4: MaxThreads threads, and any fewer ones, have a table that is great enough, and none that is less.
func TestGreatEnough(t *testing.T) {
	if size := Size(Bits(api.MaxThreads)); size < api.LoadFactor*api.MaxThreads {
		t.Errorf("%d threads have a table of %d buckets", api.MaxThreads, size)
	}
	for threads := 1; threads <= 85; threads++ {
		bits := Bits(threads)
		if Size(bits) < 3*threads || Size(bits-1) >= 3*threads {
			t.Errorf("%d threads have a table of %d buckets, one bit less is one of %d", threads, Size(bits), Size(bits-1))
		}
		if bits < Bits(threads-1) {
			t.Errorf("%d threads have fewer bits than one less", threads)
		}
	}
}

// The chapter's examples.
func TestExamples(t *testing.T) {
	if Hash(0, 2) != 0 || Bits(1) != 2 || Bits(2) != 3 || Bits(64) != 8 || Size(8) != 256 || Lock(2, 3) != 263 {
		t.Error(Hash(0, 2), Bits(1), Bits(2), Bits(64), Size(8), Lock(2, 3))
	}
	if x, y := Of(511); x != 7 || y != 127 {
		t.Errorf("Of(511) = %d, %d", x, y)
	}
	if x, y := Of(767); x != 8 || y != 255 {
		t.Errorf("Of(767) = %d, %d", x, y)
	}
}
