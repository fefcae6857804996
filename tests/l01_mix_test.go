package tests

import (
	"math"
	"math/big"
	"math/rand"
	"slices"
	"testing"

	"loop.example/g00775/impl"
)

// edgeNumbers are those at and past both moduli of a mixing, and the least and the greatest ones.
var edgeNumbers = []int64{
	0, 1, 2,
	2147483628, 2147483629, 2147483630,
	2147483646, 2147483647, 2147483648,
	2 * 2147483629, 2 * 2147483647,
	impl.MixMod - 1, impl.MixMod,
	math.MaxInt64 - 1, math.MaxInt64,
}

var edgeSums = []int64{
	0, 1, 2,
	2147483647, 2147483648,
	impl.MixMod/2 - 1, impl.MixMod / 2, impl.MixMod/2 + 1,
	impl.MixMod - 2, impl.MixMod - 1,
}

// bigRoll keeps one of the two sums of a mixing in numbers without a limit, so that no overflow can hide.
func bigRoll(start, factor, modulus int64, list []int64) *big.Int {
	sum := big.NewInt(start)
	m := big.NewInt(modulus)
	for _, n := range list {
		sum.Mul(sum, big.NewInt(factor))
		sum.Add(sum, big.NewInt(n))
		sum.Add(sum, big.NewInt(1))
		sum.Mod(sum, m)
	}
	return sum
}

func bigMix(key int64, list []int64) int64 {
	mix := bigRoll(key+7, 131, 2147483647, list)
	mix.Mul(mix, big.NewInt(2147483648))
	mix.Add(mix, bigRoll(2*key+11, 137, 2147483629, list))
	return mix.Int64()
}

func bigAdd(a, b int64) int64 {
	sum := new(big.Int).Add(big.NewInt(a), big.NewInt(b))
	return sum.Mod(sum, new(big.Int).Lsh(big.NewInt(1), 62)).Int64()
}

func wantMix(t *testing.T, key int64, list []int64, want int64) {
	t.Helper()
	if got := impl.MixOf(key, list); got != want {
		t.Errorf("MixOf(%d, %v) = %d, want %d", key, list, got, want)
	}
}

func wantAdd(t *testing.T, a, b, want int64) {
	t.Helper()
	if got := impl.AddOf(a, b); got != want {
		t.Errorf("AddOf(%d, %d) = %d, want %d", a, b, got, want)
	}
}

func TestMixConstants(t *testing.T) {
	if impl.MaxKey != 1000000 || impl.MixMod != 4611686018427387904 {
		t.Fatal(impl.MaxKey, int64(impl.MixMod))
	}
}

func TestMixOfByHand(t *testing.T) {
	wantMix(t, 1, []int64{2}, (131*8+3)*2147483648+137*13+3)
	wantMix(t, 5, []int64{0, 1}, ((131*12+1)*131+2)*2147483648+(137*21+1)*137+2)
	wantMix(t, 77, []int64{3, 4, 5}, (((131*84+4)*131+5)*131+6)*2147483648+((137*165+4)*137+5)*137+6)
}

func TestMixOfEmptyList(t *testing.T) {
	for _, list := range [][]int64{nil, {}} {
		wantMix(t, 1, list, 8*2147483648+13)
		wantMix(t, impl.MaxKey, list, 1000007*2147483648+2000011)
	}
}

func TestMixOfKeys(t *testing.T) {
	for _, list := range [][]int64{nil, {7}, {1, 2, 3}} {
		for _, key := range []int64{1, 2, impl.MaxKey - 1, impl.MaxKey} {
			wantMix(t, key, list, bigMix(key, list))
		}
		for _, key := range []int64{math.MinInt64, -impl.MaxKey, -7, -1, 0, impl.MaxKey + 1, math.MaxInt64} {
			wantMix(t, key, list, -1)
		}
	}
}

func TestMixOfNumbersPastTheModuli(t *testing.T) {
	wantMix(t, 1, []int64{2147483647}, (131*8+1)*2147483648+137*13+19)
	wantMix(t, 1, []int64{2147483646}, (131*8)*2147483648+137*13+18)
	wantMix(t, 1, []int64{2147483629}, (131*8-17)*2147483648+137*13+1)
	wantMix(t, 1, []int64{2147483628}, (131*8-18)*2147483648+137*13)
	for _, a := range edgeNumbers {
		wantMix(t, 1, []int64{a}, bigMix(1, []int64{a}))
		for _, b := range edgeNumbers {
			list := []int64{a, b, a}
			wantMix(t, impl.MaxKey, list, bigMix(impl.MaxKey, list))
		}
	}
}

func TestMixOfLongLists(t *testing.T) {
	draw := rand.New(rand.NewSource(1))
	for range 300 {
		key := draw.Int63n(impl.MaxKey) + 1
		list := make([]int64, draw.Intn(200))
		for i := range list {
			list[i] = draw.Int63() >> uint(draw.Intn(63))
		}
		wantMix(t, key, list, bigMix(key, list))
		if mix := impl.MixOf(key, list); mix < 0 || mix >= impl.MixMod {
			t.Fatalf("MixOf(%d, %v) = %d is not one that AddOf takes", key, list, mix)
		}
	}
}

func TestMixOfNumberBelowZero(t *testing.T) {
	for _, n := range []int64{-1, -2147483629, -2147483647, math.MinInt64} {
		for _, list := range [][]int64{{n}, {n, 3}, {3, n}, {3, n, 3}, {0, n}} {
			wantMix(t, 1, list, -1)
			wantMix(t, 0, list, -1)
		}
	}
}

func TestMixOfAsksForTheOrder(t *testing.T) {
	if impl.MixOf(9, []int64{1, 2}) == impl.MixOf(9, []int64{2, 1}) {
		t.Error("a mixing does not tell 1, 2 from 2, 1")
	}
	if impl.MixOf(9, []int64{0}) == impl.MixOf(9, nil) {
		t.Error("a mixing does not tell a 0 from nothing")
	}
}

func TestMixOfLeavesItsList(t *testing.T) {
	for _, numbers := range [][]int64{{5, 2147483647, math.MaxInt64, 8, 9}, {5, -1, math.MaxInt64, 8, 9}} {
		whole := slices.Clone(numbers)
		first := impl.MixOf(3, whole[:3])
		if !slices.Equal(whole, numbers) {
			t.Fatalf("%v became %v", numbers, whole)
		}
		if again := impl.MixOf(3, whole[:3]); again != first {
			t.Fatalf("the second call answers %d, the first one %d", again, first)
		}
	}
}

func TestAddOfByHand(t *testing.T) {
	wantAdd(t, 0, 0, 0)
	wantAdd(t, 2, 3, 5)
	wantAdd(t, 0, impl.MixMod-1, impl.MixMod-1)
	wantAdd(t, 1, impl.MixMod-2, impl.MixMod-1)
	wantAdd(t, 1, impl.MixMod-1, 0)
	wantAdd(t, 2, impl.MixMod-1, 1)
	wantAdd(t, impl.MixMod/2, impl.MixMod/2, 0)
	wantAdd(t, impl.MixMod-1, impl.MixMod-1, impl.MixMod-2)
}

func TestAddOfOutOfRange(t *testing.T) {
	for _, bad := range []int64{math.MinInt64, -impl.MixMod, -2, -1, impl.MixMod, impl.MixMod + 1, math.MaxInt64} {
		for _, good := range edgeSums {
			wantAdd(t, bad, good, -1)
			wantAdd(t, good, bad, -1)
		}
		wantAdd(t, bad, bad, -1)
		wantAdd(t, bad, -bad, -1)
	}
}

// TestAddOfDoesNotAskForTheOrder is promise 1: of two, of three, and of a whole list in other orders.
func TestAddOfDoesNotAskForTheOrder(t *testing.T) {
	for _, a := range edgeSums {
		for _, b := range edgeSums {
			wantAdd(t, a, b, bigAdd(a, b))
			wantAdd(t, b, a, impl.AddOf(a, b))
			for _, c := range edgeSums {
				wantAdd(t, impl.AddOf(a, b), c, impl.AddOf(a, impl.AddOf(b, c)))
			}
		}
	}
	draw := rand.New(rand.NewSource(2))
	for range 200 {
		list := make([]int64, draw.Intn(40))
		for i := range list {
			list[i] = draw.Int63n(impl.MixMod)
		}
		want := added(list)
		draw.Shuffle(len(list), func(i, j int) { list[i], list[j] = list[j], list[i] })
		if got := added(list); got != want {
			t.Fatalf("%v is %d together, and %d in another order", list, got, want)
		}
	}
}

func added(list []int64) int64 {
	sum := int64(0)
	for _, n := range list {
		sum = impl.AddOf(sum, n)
	}
	return sum
}
