package fixed_test

import (
	"math"
	"math/big"
	"math/rand"
	"testing"

	"timesync/api"
	"timesync/fixed"
)

const (
	low  = math.MinInt
	high = math.MaxInt
)

// numbers holds the integers at which overflow and rounding change, and some
// between them that are the same in each run.
func numbers() []int {
	list := []int{
		low, low + 1, low + 2, low / 2, low/2 - 1, low/2 + 1,
		high, high - 1, high - 2, high / 2, high/2 + 1, high/2 + 2,
		-3037000500, -3037000499, 3037000499, 3037000500,
		-1 << 32, -1 << 31, 1 << 31, 1<<32 - 1, 1 << 32,
		-1000000000, 999999999, 1000000000, 1000500000,
		-7, -5, -3, -2, -1, 0, 1, 2, 3, 5, 7,
	}
	random := rand.New(rand.NewSource(1))
	for range 12 {
		list = append(list, int(random.Uint64())>>random.Intn(64))
	}
	return list
}

// exact is the reference: what arithmetic without limits makes of a and b, or
// nil if it makes nothing.
type exact func(a, b *big.Int) *big.Int

func exactFloor(a, b *big.Int) *big.Int {
	if b.Sign() == 0 {
		return nil
	}
	if b.Sign() < 0 {
		a, b = new(big.Int).Neg(a), new(big.Int).Neg(b)
	}
	return new(big.Int).Div(a, b)
}

func exactCeil(a, b *big.Int) *big.Int {
	q := exactFloor(new(big.Int).Neg(a), b)
	if q == nil {
		return nil
	}
	return q.Neg(q)
}

func exactNear(a, b *big.Int) *big.Int {
	down, up := exactFloor(a, b), exactCeil(a, b)
	if down == nil {
		return nil
	}
	fromDown := new(big.Int).Abs(new(big.Int).Sub(a, new(big.Int).Mul(down, b)))
	fromUp := new(big.Int).Abs(new(big.Int).Sub(a, new(big.Int).Mul(up, b)))
	order := fromDown.Cmp(fromUp)
	if order < 0 || order == 0 && down.Bit(0) == 0 {
		return down
	}
	return up
}

func exactMulDiv(a, b, c int) *big.Int {
	product := new(big.Int).Mul(big.NewInt(int64(a)), big.NewInt(int64(b)))
	return exactFloor(product, big.NewInt(int64(c)))
}

// asResult turns a reference value into what a call has to return for it.
func asResult(n *big.Int) (int, bool) {
	if n == nil || !n.IsInt64() {
		return 0, false
	}
	return int(n.Int64()), true
}

func checkPairs(t *testing.T, name string, f func(a, b int) (int, bool), reference exact) {
	t.Helper()
	for _, a := range numbers() {
		for _, b := range numbers() {
			want, ok := asResult(reference(big.NewInt(int64(a)), big.NewInt(int64(b))))
			if n, got := f(a, b); n != want || got != ok {
				t.Errorf("%s(%d, %d) = %d, %v; want %d, %v", name, a, b, n, got, want, ok)
			}
		}
	}
}

type pairCase struct {
	a, b, want int
	ok         bool
}

func checkCases(t *testing.T, name string, f func(a, b int) (int, bool), cases []pairCase) {
	t.Helper()
	for _, c := range cases {
		if n, ok := f(c.a, c.b); n != c.want || ok != c.ok {
			t.Errorf("%s(%d, %d) = %d, %v; want %d, %v", name, c.a, c.b, n, ok, c.want, c.ok)
		}
	}
}

// P1.1
func TestAdd(t *testing.T) {
	checkCases(t, "Add", fixed.Add, []pairCase{
		{2, 3, 5, true}, {-2, -3, -5, true}, {0, 0, 0, true}, {5, -5, 0, true},
		{high, 0, high, true}, {0, low, low, true}, {high, low, -1, true}, {high - 1, 1, high, true}, {low + 1, -1, low, true},
		{high, 1, 0, false}, {1, high, 0, false}, {low, -1, 0, false}, {-1, low, 0, false}, {high, high, 0, false}, {low, low, 0, false},
	})
	checkPairs(t, "Add", fixed.Add, func(a, b *big.Int) *big.Int { return new(big.Int).Add(a, b) })
}

// P1.1
func TestSub(t *testing.T) {
	checkCases(t, "Sub", fixed.Sub, []pairCase{
		{2, 3, -1, true}, {-2, -3, 1, true}, {0, 0, 0, true}, {0, high, -high, true},
		{-1, low, high, true}, {low, low, 0, true}, {high, high, 0, true}, {low, 0, low, true}, {-1, high, low, true},
		{0, low, 0, false}, {1, low, 0, false}, {low, 1, 0, false}, {-2, high, 0, false}, {high, -1, 0, false}, {high, low, 0, false},
	})
	checkPairs(t, "Sub", fixed.Sub, func(a, b *big.Int) *big.Int { return new(big.Int).Sub(a, b) })
}

// P1.1
func TestMul(t *testing.T) {
	checkCases(t, "Mul", fixed.Mul, []pairCase{
		{6, 7, 42, true}, {-6, 7, -42, true}, {6, -7, -42, true}, {-6, -7, 42, true}, {0, low, 0, true}, {high, 0, 0, true},
		{low, 1, low, true}, {1, low, low, true}, {high, -1, -high, true}, {-1 << 32, 1 << 31, low, true}, {3037000499, 3037000499, 9223372030926249001, true},
		{low, -1, 0, false}, {-1, low, 0, false}, {1 << 32, 1 << 31, 0, false}, {3037000500, 3037000500, 0, false}, {low, low, 0, false}, {high, high, 0, false}, {low, 2, 0, false},
		{1 << 32, 1 << 32, 0, false},
	})
	checkPairs(t, "Mul", fixed.Mul, func(a, b *big.Int) *big.Int { return new(big.Int).Mul(a, b) })
}

// P1.1
func TestAbs(t *testing.T) {
	for _, c := range []struct {
		n, want int
		ok      bool
	}{{5, 5, true}, {-5, 5, true}, {0, 0, true}, {-1, 1, true}, {high, high, true}, {low + 1, high, true}, {low, 0, false}} {
		if n, ok := fixed.Abs(c.n); n != c.want || ok != c.ok {
			t.Errorf("Abs(%d) = %d, %v; want %d, %v", c.n, n, ok, c.want, c.ok)
		}
	}
}

// P1.2
func TestFloor(t *testing.T) {
	checkCases(t, "Floor", fixed.Floor, []pairCase{
		{7, 2, 3, true}, {-7, 2, -4, true}, {7, -2, -4, true}, {-7, -2, 3, true}, {6, 2, 3, true}, {-6, 2, -3, true}, {6, -2, -3, true}, {0, -2, 0, true},
		{low, 1, low, true}, {low, low, 1, true}, {high, low, -1, true}, {low, high, -2, true}, {high, -1, -high, true}, {-1, high, -1, true}, {1, low, -1, true},
		{low, -1, 0, false}, {1, 0, 0, false}, {0, 0, 0, false}, {low, 0, 0, false},
	})
	checkPairs(t, "Floor", fixed.Floor, exactFloor)
}

// P1.2
func TestCeil(t *testing.T) {
	checkCases(t, "Ceil", fixed.Ceil, []pairCase{
		{7, 2, 4, true}, {-7, 2, -3, true}, {7, -2, -3, true}, {-7, -2, 4, true}, {6, 2, 3, true}, {-6, 2, -3, true}, {-6, -2, 3, true}, {0, -2, 0, true},
		{low, 1, low, true}, {low, low, 1, true}, {high, low, 0, true}, {low, high, -1, true}, {high, -1, -high, true}, {1, high, 1, true}, {-1, low, 1, true},
		{low, -1, 0, false}, {1, 0, 0, false}, {0, 0, 0, false}, {low, 0, 0, false},
	})
	checkPairs(t, "Ceil", fixed.Ceil, exactCeil)
}

// P1.2
func TestNear(t *testing.T) {
	checkCases(t, "Near", fixed.Near, []pairCase{
		{7, 3, 2, true}, {8, 3, 3, true}, {-7, 3, -2, true}, {-8, 3, -3, true}, {7, -3, -2, true}, {-8, -3, 3, true}, {6, 3, 2, true}, {0, -3, 0, true},
		{1, 2, 0, true}, {3, 2, 2, true}, {5, 2, 2, true}, {7, 2, 4, true}, {-1, 2, 0, true}, {-3, 2, -2, true}, {-5, 2, -2, true}, {-7, 2, -4, true},
		{5, -2, -2, true}, {7, -2, -4, true}, {-5, -2, 2, true}, {-7, -2, 4, true}, {15, 10, 2, true}, {25, 10, 2, true}, {26, 10, 3, true},
		{high, 2, 1 << 62, true}, {low, 1, low, true}, {high, 1, high, true}, {high, low, -1, true}, {low / 2, low, 0, true}, {low/2 - 1, low, 1, true}, {low, high, -1, true}, {high / 2, high, 0, true}, {high/2 + 1, high, 1, true},
		{low, -1, 0, false}, {1, 0, 0, false}, {0, 0, 0, false}, {low, 0, 0, false},
	})
	checkPairs(t, "Near", fixed.Near, exactNear)
}

// P1.3
func TestMulDiv(t *testing.T) {
	for _, c := range []struct {
		a, b, c, want int
		ok            bool
	}{
		{9000000000000000000, 3, 9, 3000000000000000000, true},
		{7, 3, 2, 10, true}, {-7, 3, 2, -11, true}, {7, -3, 2, -11, true}, {7, 3, -2, -11, true}, {-7, -3, -2, -11, true}, {-7, -3, 2, 10, true}, {-7, 3, -2, 10, true},
		{0, -5, 3, 0, true}, {0, 5, -3, 0, true}, {-1, 1, high, -1, true}, {1, 1, low, -1, true},
		{high, high, high, high, true}, {low, low, low, low, true}, {low, high, high, low, true}, {low, 1, 1, low, true}, {low, -1, -1, low, true}, {low, 1 << 62, 1 << 62, low, true}, {high, -1, 2, -1 << 62, true},
		{low, low, high, 0, false}, {low, 1, -1, 0, false}, {low, 3, -3, 0, false}, {high, 2, 1, 0, false}, {high, high, 1, 0, false}, {low, high, high - 1, 0, false}, {high, high, high - 1, 0, false},
		{1 << 62, 5, 2, 0, false}, {1 << 62, 4, 2, 0, false}, {-1 << 62, 4, 2, low, true}, {-1 << 62, 4, -2, 0, false},
		{4294967295, 4294967297, 2, high, true}, {-4294967295, 4294967297, 2, low, true}, {274177, 67280421310721, 2, 0, false}, {-274177, 67280421310721, 2, 0, false},
		{5, 5, 0, 0, false}, {0, 0, 0, 0, false}, {low, low, 0, 0, false},
	} {
		if n, ok := fixed.MulDiv(c.a, c.b, c.c); n != c.want || ok != c.ok {
			t.Errorf("MulDiv(%d, %d, %d) = %d, %v; want %d, %v", c.a, c.b, c.c, n, ok, c.want, c.ok)
		}
	}
	for _, a := range numbers() {
		for _, b := range numbers() {
			for _, c := range numbers() {
				want, ok := asResult(exactMulDiv(a, b, c))
				if n, got := fixed.MulDiv(a, b, c); n != want || got != ok {
					t.Fatalf("MulDiv(%d, %d, %d) = %d, %v; want %d, %v", a, b, c, n, got, want, ok)
				}
			}
		}
	}
}

// P1.4
func TestSqrt(t *testing.T) {
	for _, c := range []struct {
		n, want int
		ok      bool
	}{
		{0, 0, true}, {1, 1, true}, {2, 1, true}, {3, 1, true}, {4, 2, true}, {99, 9, true}, {100, 10, true}, {101, 10, true},
		{1<<62 - 1, 1<<31 - 1, true}, {1 << 62, 1 << 31, true}, {high, 3037000499, true},
		{9223372030926249001, 3037000499, true}, {9223372030926249000, 3037000498, true},
		{-1, 0, false}, {-4, 0, false}, {low, 0, false},
	} {
		if n, ok := fixed.Sqrt(c.n); n != c.want || ok != c.ok {
			t.Errorf("Sqrt(%d) = %d, %v; want %d, %v", c.n, n, ok, c.want, c.ok)
		}
	}
	for root := 1; root <= 3037000499; root += root/3 + 1 {
		for _, c := range []struct{ n, want int }{{root*root - 1, root - 1}, {root * root, root}, {root*root + 1, root}} {
			if c.n == 2 && root == 1 {
				c.want = 1
			}
			if n, ok := fixed.Sqrt(c.n); n != c.want || !ok {
				t.Errorf("Sqrt(%d) = %d, %v; want %d", c.n, n, ok, c.want)
			}
		}
	}
}

// P1.5
func TestClamp(t *testing.T) {
	for _, c := range []struct{ n, lo, hi, want int }{
		{0, 1, 3, 1}, {1, 1, 3, 1}, {2, 1, 3, 2}, {3, 1, 3, 3}, {4, 1, 3, 3}, {5, 5, 5, 5}, {-9, -5, -2, -5}, {0, -5, -2, -2},
		{low, low, high, low}, {high, low, high, high}, {high, low, low, low}, {low, high, high, high},
		{5, 7, 3, 7}, {1, 7, 3, 7}, {7, 7, 3, 3}, {9, 7, 3, 3}, {6, 7, 3, 7}, {low, high, low, high}, {high, high, low, low},
	} {
		if n := fixed.Clamp(c.n, c.lo, c.hi); n != c.want {
			t.Errorf("Clamp(%d, %d, %d) = %d; want %d", c.n, c.lo, c.hi, n, c.want)
		}
	}
}

// P1.6
func TestScale(t *testing.T) {
	checkCases(t, "Scale", fixed.Scale, []pairCase{
		{10, 500000, 10, true}, {-1, 1, -2, true}, {1000000000, 1, 1000000001, true}, {1000000000, -1, 999999999, true}, {1000000000, -500000, 999500000, true}, {1000000000, 500000, 1000500000, true},
		{1000000, 1000, 1000001, true}, {1999, 500000, 1999, true}, {2000, 500000, 2001, true}, {-10, 500000, -11, true}, {-1, -1, -1, true}, {1, -1, 0, true}, {0, 7, 0, true},
		{high, 0, high, true}, {low, 0, low, true}, {api.MaxTime, 500000, 8004000000000000000, true}, {-api.MaxTime, -500000, -7996000000000000000, true},
		{high, 1, 0, false}, {low, 1, 0, false}, {high, 500000, 0, false},
		{1, 500001, 0, false}, {1, -500001, 0, false}, {0, 500001, 0, false}, {5, -1000000000, 0, false}, {5, high, 0, false}, {5, low, 0, false},
	})
	checkRates(t, "Scale", fixed.Scale, func(n, ppb int) *big.Int { return exactMulDiv(n, 1000000000+ppb, 1000000000) })
}

// P1.6
func TestUnscale(t *testing.T) {
	checkCases(t, "Unscale", fixed.Unscale, []pairCase{
		{1000500000, 500000, 1000000000, true}, {999500000, -500000, 1000000000, true}, {1000000001, 1, 1000000000, true}, {-1, 1, -1, true}, {-1, -1, -2, true}, {1, 1, 0, true}, {1, -1, 1, true}, {0, 7, 0, true},
		{1000000, 0, 1000000, true}, {1999, -500000, 2000, true}, {1998, -500000, 1998, true}, {1999, 500000, 1998, true}, {2001, 500000, 2000, true},
		{high, 0, high, true}, {low, 0, low, true}, {8004000000000000000, 500000, api.MaxTime, true},
		{high, -1, 0, false}, {low, -1, 0, false}, {low, -500000, 0, false},
		{1, 500001, 0, false}, {1, -500001, 0, false}, {0, -500001, 0, false}, {5, -1000000000, 0, false}, {5, high, 0, false}, {5, low, 0, false},
	})
	checkRates(t, "Unscale", fixed.Unscale, func(n, ppb int) *big.Int { return exactMulDiv(n, 1000000000, 1000000000+ppb) })
}

func rates() []int {
	return []int{-api.MaxPPB, -api.MaxPPB + 1, -123457, -1000, -1, 0, 1, 1000, 123457, api.MaxPPB - 1, api.MaxPPB}
}

func checkRates(t *testing.T, name string, f func(n, ppb int) (int, bool), reference func(n, ppb int) *big.Int) {
	t.Helper()
	for _, n := range numbers() {
		for _, ppb := range rates() {
			want, ok := asResult(reference(n, ppb))
			if m, got := f(n, ppb); m != want || got != ok {
				t.Errorf("%s(%d, %d) = %d, %v; want %d, %v", name, n, ppb, m, got, want, ok)
			}
		}
	}
}

// P1.7
func TestAddedAndSubtracted(t *testing.T) {
	for _, a := range numbers() {
		for _, b := range numbers() {
			sum, ok := fixed.Add(a, b)
			if !ok {
				continue
			}
			if n, ok := fixed.Sub(sum, b); n != a || !ok {
				t.Errorf("%d + %d - %d = %d, %v", a, b, b, n, ok)
			}
		}
	}
}

// P1.7
func TestRoundingsAgree(t *testing.T) {
	for _, a := range numbers() {
		for _, b := range numbers() {
			if b <= 0 {
				continue
			}
			down, ok1 := fixed.Floor(a, b)
			up, ok2 := fixed.Ceil(a, b)
			near, ok3 := fixed.Near(a, b)
			if !ok1 || !ok2 || !ok3 {
				t.Errorf("%d / %d: %v %v %v", a, b, ok1, ok2, ok3)
			}
			if up != down && up != down+1 || near != down && near != up {
				t.Errorf("%d / %d: %d, %d, %d", a, b, down, near, up)
			}
		}
	}
}

// P1.7
func TestMulDivUndoesItself(t *testing.T) {
	for _, a := range numbers() {
		for _, c := range numbers() {
			if c == 0 {
				continue
			}
			if n, ok := fixed.MulDiv(a, c, c); n != a || !ok {
				t.Errorf("MulDiv(%d, %d, %d) = %d, %v", a, c, c, n, ok)
			}
		}
	}
}

// P1.7
func TestUnscaleOfScale(t *testing.T) {
	for _, n := range numbers() {
		for _, ppb := range rates() {
			m, ok := fixed.Scale(n, ppb)
			if !ok || n < low+2 {
				continue
			}
			if back, ok := fixed.Unscale(m, ppb); !ok || back > n || back < n-2 {
				t.Errorf("Unscale(Scale(%d, %d)) = %d, %v", n, ppb, back, ok)
			}
		}
	}
}
