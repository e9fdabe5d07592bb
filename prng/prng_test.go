package prng_test

import (
	"math"
	"math/big"
	"math/rand"
	"slices"
	"testing"

	"timesync/prng"
)

const (
	low  = math.MinInt
	high = math.MaxInt

	golden = 0x9e3779b97f4a7c15
)

// seeds holds seeds at which sums and products wrap around, and some others that
// are the same in each run.
func seeds() []uint64 {
	list := []uint64{0, 1, 2, 3, 1 << 31, 1 << 32, 1<<63 - 1, 1 << 63, math.MaxUint64 - 1, math.MaxUint64, golden, math.MaxUint64 - golden + 1, 1234567}
	random := rand.New(rand.NewSource(1))
	for range 20 {
		list = append(list, random.Uint64())
	}
	return list
}

// modulo returns a number of arithmetic without limits modulo 2^64.
func modulo(n *big.Int) uint64 {
	return new(big.Int).And(n, new(big.Int).SetUint64(math.MaxUint64)).Uint64()
}

func product(a, b uint64) uint64 {
	return modulo(new(big.Int).Mul(new(big.Int).SetUint64(a), new(big.Int).SetUint64(b)))
}

// mixed is the reference for Mix.
func mixed(a, b uint64) uint64 {
	next := new(big.Int).Add(new(big.Int).SetUint64(b), big.NewInt(1))
	next.Mul(next, new(big.Int).SetUint64(golden))
	x := modulo(next.Add(next, new(big.Int).SetUint64(a)))
	x = product(x^x/(1<<30), 0xbf58476d1ce4e5b9)
	x = product(x^x/(1<<27), 0x94d049bb133111eb)
	return x ^ x/(1<<31)
}

// checkSteps tells by its next number whether a source has made so many steps.
func checkSteps(t *testing.T, call string, s *prng.Source, seed uint64, steps int) {
	t.Helper()
	if n, want := s.Next(), mixed(seed, uint64(steps)); n != want {
		t.Errorf("after %s of seed %d, Next() = %d; want %d, the number of step %d", call, seed, n, want, steps)
	}
}

// P8.1
func TestMix(t *testing.T) {
	for _, c := range []struct{ a, b, want uint64 }{
		{0, 0, 0xe220a8397b1dcdaf}, {0, 1, 0x6e789e6aa1b965f4}, {0, 2, 0x06c45d188009454f}, {0, 3, 0xf88bb8a8724c81ec}, {0, 4, 0x1b39896a51a8749b},
		{1234567, 0, 6457827717110365317}, {1234567, 1, 3203168211198807973}, {1234567, 2, 9817491932198370423}, {1234567, 3, 4593380528125082431}, {1234567, 4, 16408922859458223821},
		// With the greatest b, b + 1 is 0, and 0 remains 0 in every round.
		{0, math.MaxUint64, 0},
	} {
		if n := prng.Mix(c.a, c.b); n != c.want {
			t.Errorf("Mix(%d, %d) = %#x; want %#x", c.a, c.b, n, c.want)
		}
	}
	for _, a := range seeds() {
		for _, b := range seeds() {
			if n := prng.Mix(a, b); n != mixed(a, b) {
				t.Errorf("Mix(%d, %d) = %#x; want %#x", a, b, n, mixed(a, b))
			}
		}
	}
}

// P8.2, P8.7
func TestNext(t *testing.T) {
	if n := prng.New(0).Next(); n != 16294208416658607535 {
		t.Errorf("the first number of New(0) is %d; want 16294208416658607535", n)
	}
	for _, seed := range seeds() {
		s := prng.New(seed)
		for i := range uint64(100) {
			if n := s.Next(); n != mixed(seed, i) {
				t.Errorf("number %d of New(%d) is %d; want %d", i, seed, n, mixed(seed, i))
			}
		}
	}
}

// P8.2, P8.7
func TestSourcesOfOneSeed(t *testing.T) {
	a, b := prng.New(9), prng.New(9)
	a.Next()
	a.Next()
	checkSteps(t, "calls of another source", b, 9, 0)
	checkSteps(t, "two steps", a, 9, 2)
}

// P8.3
func TestBelow(t *testing.T) {
	for _, seed := range seeds() {
		s := prng.New(seed)
		for step, n := range []int{1, 2, 3, 5, 7, 10, 16, 1000, 4096, 1<<31 - 1, 1 << 31, 1 << 32, 1<<32 + 1, 1000000000000, 1 << 62, 1<<62 + 1, high - 1, high} {
			want := int(mixed(seed, uint64(step)) % uint64(n))
			if got := s.Below(n); got != want {
				t.Errorf("step %d of seed %d: Below(%d) = %d; want %d", step, seed, n, got, want)
			}
		}
	}
}

// P8.3
func TestBelowWithoutStep(t *testing.T) {
	for _, n := range []int{0, -1, -2, -1000, low, low + 1, -high} {
		s := prng.New(7)
		if got := s.Below(n); got != 0 {
			t.Errorf("Below(%d) = %d; want 0", n, got)
		}
		checkSteps(t, "Below of a number below 1", s, 7, 0)
		s.Below(1)
		s.Below(n)
		checkSteps(t, "Below(1)", s, 7, 2)
	}
}

// ranges holds the bounds of ranges, from one number to all of them.
func ranges() [][2]int {
	return [][2]int{
		{0, 0}, {5, 5}, {-5, -5}, {low, low}, {high, high}, {0, 1}, {-1, 0}, {5, 14}, {-14, -5}, {-3, 3}, {-500000, 500000}, {0, 1 << 50},
		{0, high}, {0, high - 1}, {1, high}, {-1, high}, {low, -1}, {low, 0}, {low, 1}, {low / 2, high / 2}, {low, high - 1}, {low + 1, high}, {low + 1, high - 1}, {low, high},
	}
}

// ranged is the reference for Range: lo plus the remainder of the number divided by
// how many numbers there are.
func ranged(lo, hi int, number uint64) int {
	first := big.NewInt(int64(lo))
	count := new(big.Int).Sub(big.NewInt(int64(hi)), first)
	count.Add(count, big.NewInt(1))
	rest := new(big.Int).Mod(new(big.Int).SetUint64(number), count)
	if !count.IsUint64() {
		// Where there are 2^64 numbers, the sum of lo and the number itself is
		// brought back from lo to hi modulo 2^64.
		return int(modulo(rest.Add(rest, first)))
	}
	return int(rest.Add(rest, first).Int64())
}

// P8.3
func TestRange(t *testing.T) {
	for _, seed := range seeds() {
		s := prng.New(seed)
		for step, r := range ranges() {
			lo, hi := r[0], r[1]
			want := ranged(lo, hi, mixed(seed, uint64(step)))
			got := s.Range(lo, hi)
			if got != want || got < lo || got > hi {
				t.Errorf("step %d of seed %d: Range(%d, %d) = %d; want %d", step, seed, lo, hi, got, want)
			}
		}
	}
}

// P8.3
func TestRangeWithoutStep(t *testing.T) {
	for _, r := range [][2]int{{5, 4}, {0, -1}, {1, 0}, {-1, -2}, {high, low}, {high, high - 1}, {low + 1, low}, {0, low}, {high, 0}, {1, low + 1}} {
		s := prng.New(7)
		if got := s.Range(r[0], r[1]); got != r[0] {
			t.Errorf("Range(%d, %d) = %d; want %d", r[0], r[1], got, r[0])
		}
		checkSteps(t, "Range without numbers", s, 7, 0)
		s.Range(r[0], r[0])
		s.Range(r[0], r[1])
		checkSteps(t, "Range with one number", s, 7, 2)
	}
}

// shuffled is the reference for Perm of a source that has made so many steps.
func shuffled(seed uint64, steps, n int) []int {
	var list []int
	for i := range n {
		list = append(list, i)
	}
	for i := n - 1; i > 0; i-- {
		j := int(mixed(seed, uint64(steps)) % uint64(i+1))
		steps++
		list[i], list[j] = list[j], list[i]
	}
	return list
}

// P8.4, P8.9
func TestPerm(t *testing.T) {
	for _, seed := range seeds() {
		s, steps := prng.New(seed), 0
		for _, n := range []int{1, 2, 3, 4, 5, 8, 17, 100} {
			list := s.Perm(n)
			if want := shuffled(seed, steps, n); !slices.Equal(list, want) {
				t.Errorf("after %d steps of seed %d, Perm(%d) = %v; want %v", steps, seed, n, list, want)
			}
			steps += n - 1
			checkPermutation(t, list, n)
		}
		checkSteps(t, "Perm", s, seed, steps)
	}
}

// P8.4, P8.9
func TestLongestPerm(t *testing.T) {
	for _, n := range []int{prng.MaxPerm - 1, prng.MaxPerm} {
		s := prng.New(3)
		list := s.Perm(n)
		if !slices.Equal(list, shuffled(3, 0, n)) {
			t.Errorf("Perm(%d) differs from what its steps lead to", n)
		}
		checkPermutation(t, list, n)
		checkSteps(t, "Perm", s, 3, n-1)
	}
	if prng.MaxPerm != 4096 {
		t.Errorf("MaxPerm = %d; want 4096", prng.MaxPerm)
	}
}

func checkPermutation(t *testing.T, list []int, n int) {
	t.Helper()
	sorted := slices.Clone(list)
	slices.Sort(sorted)
	for i, x := range sorted {
		if x != i {
			t.Fatalf("the elements of Perm(%d) are %v, in order", n, sorted)
		}
	}
	if len(list) != n {
		t.Errorf("Perm(%d) has %d elements", n, len(list))
	}
}

// P8.4
func TestPermWithoutStep(t *testing.T) {
	for _, n := range []int{0, -1, -4096, low, prng.MaxPerm + 1, prng.MaxPerm + 2, 1 << 40, high} {
		s := prng.New(7)
		if list := s.Perm(n); len(list) != 0 {
			t.Errorf("Perm(%d) has %d elements; want none", n, len(list))
		}
		checkSteps(t, "Perm without elements", s, 7, 0)
	}
	s := prng.New(7)
	if list := s.Perm(1); !slices.Equal(list, []int{0}) {
		t.Errorf("Perm(1) = %v; want 0 alone", list)
	}
	checkSteps(t, "Perm(1)", s, 7, 0)
}

// P8.4
func TestPermIsNew(t *testing.T) {
	s := prng.New(7)
	first := s.Perm(20)
	clear(first)
	if list := s.Perm(20); !slices.Equal(list, shuffled(7, 19, 20)) {
		t.Errorf("a changed result changed the next one: %v", list)
	}
	for i := range first {
		if first[i] != 0 {
			t.Errorf("a later Perm wrote %d into an earlier result", first[i])
		}
	}
}

// P8.5
func TestFork(t *testing.T) {
	for _, seed := range seeds() {
		s := prng.New(seed)
		for step := range uint64(5) {
			fork := s.Fork()
			if fork == nil || fork == s {
				t.Fatalf("fork %d of seed %d is no new source", step, seed)
			}
			for i := range uint64(5) {
				if n, want := fork.Next(), mixed(mixed(seed, step), i); n != want {
					t.Errorf("number %d of fork %d of seed %d is %d; want %d", i, step, seed, n, want)
				}
			}
		}
		checkSteps(t, "five forks", s, seed, 5)
	}
}

// P8.6
func TestNilSource(t *testing.T) {
	var s *prng.Source
	for range 2 {
		if n := s.Next(); n != 0 {
			t.Errorf("Next() of nil = %d; want 0", n)
		}
		for _, n := range []int{-1, 0, 1, 2, 1000, high, low} {
			if got := s.Below(n); got != 0 {
				t.Errorf("Below(%d) of nil = %d; want 0", n, got)
			}
			if list := s.Perm(n); len(list) != 0 {
				t.Errorf("Perm(%d) of nil = %v; want no numbers", n, list)
			}
		}
		for _, r := range append(ranges(), [2]int{5, 4}, [2]int{-4, -5}, [2]int{high, low}) {
			if got := s.Range(r[0], r[1]); got != 0 {
				t.Errorf("Range(%d, %d) of nil = %d; want 0", r[0], r[1], got)
			}
		}
		if fork := s.Fork(); fork != nil {
			t.Errorf("Fork() of nil = %v; want nil", fork)
		}
	}
}

// P8.6
func TestZeroSource(t *testing.T) {
	var next, below, ranged, perm, fork prng.Source
	if n := next.Next(); n != mixed(0, 0) {
		t.Errorf("the first number of a zero source is %d; want %d", n, mixed(0, 0))
	}
	checkSteps(t, "Next of a zero source", &next, 0, 1)
	if n, want := below.Below(10), int(mixed(0, 0)%10); n != want {
		t.Errorf("Below(10) of a zero source = %d; want %d", n, want)
	}
	if n, want := ranged.Range(-5, 4), int(mixed(0, 0)%10)-5; n != want {
		t.Errorf("Range(-5, 4) of a zero source = %d; want %d", n, want)
	}
	if list := perm.Perm(9); !slices.Equal(list, shuffled(0, 0, 9)) {
		t.Errorf("Perm(9) of a zero source = %v; want %v", list, shuffled(0, 0, 9))
	}
	checkSteps(t, "Perm of a zero source", &perm, 0, 8)
	checkSteps(t, "Fork of a zero source", fork.Fork(), mixed(0, 0), 0)
	checkSteps(t, "Fork of a zero source", &fork, 0, 1)
}

// P8.7
func TestEveryCallCountsItsSteps(t *testing.T) {
	for _, seed := range seeds() {
		s := prng.New(seed)
		s.Next()       // 1
		s.Below(0)     // 1
		s.Below(6)     // 2
		s.Range(2, 1)  // 2
		s.Range(1, 2)  // 3
		s.Perm(0)      // 3
		s.Perm(5)      // 7
		s.Fork()       // 8
		s.Perm(1)      // 8
		s.Range(3, 3)  // 9
		s.Below(1)     // 10
		s.Range(7, -7) // 10
		checkSteps(t, "ten steps", s, seed, 10)
	}
}

// unmixed returns the b from which Mix(a, b) comes, by undoing each round: so there
// is no other b with this number.
func unmixed(a, number uint64) uint64 {
	x := number ^ number>>31 ^ number>>62
	x *= inverse(0x94d049bb133111eb)
	x = x ^ x>>27 ^ x>>54
	x *= inverse(0xbf58476d1ce4e5b9)
	x = x ^ x>>30 ^ x>>60
	return (x-a)*inverse(golden) - 1
}

// inverse returns what an odd number is multiplied with to 1, modulo 2^64.
func inverse(n uint64) uint64 {
	size := new(big.Int).Lsh(big.NewInt(1), 64)
	return new(big.Int).ModInverse(new(big.Int).SetUint64(n), size).Uint64()
}

// P8.8
func TestMixIsOneToOne(t *testing.T) {
	for _, a := range seeds() {
		for _, b := range seeds() {
			if back := unmixed(a, prng.Mix(a, b)); back != b {
				t.Errorf("Mix(%d, %d) is the number of %d", a, b, back)
			}
		}
		seen := map[uint64]bool{}
		for b := range uint64(2000) {
			seen[prng.Mix(a, b-1000)] = true
		}
		if len(seen) != 2000 {
			t.Errorf("Mix(%d, b) has %d numbers for 2000 different b", a, len(seen))
		}
	}
}

// P8.8
func TestMixOfTheNextSeed(t *testing.T) {
	for _, a := range seeds() {
		for _, b := range seeds() {
			if n, want := prng.Mix(a+golden, b), prng.Mix(a, b+1); n != want {
				t.Errorf("Mix(%d + golden, %d) = %d; want %d", a, b, n, want)
			}
		}
	}
}

// P8.10
func TestForksAreApart(t *testing.T) {
	s := prng.New(11)
	one, two := s.Fork(), s.Fork()
	for range 50 {
		one.Next()
		one.Perm(5)
		one.Fork().Next()
	}
	checkSteps(t, "calls of a fork", s, 11, 2)
	checkSteps(t, "calls of another fork", two, mixed(11, 1), 0)
	s.Next()
	checkSteps(t, "calls of its source", two, mixed(11, 1), 1)
}
