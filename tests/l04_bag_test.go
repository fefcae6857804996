package tests

import (
	"cmp"
	"math"
	"math/rand"
	"slices"
	"testing"

	"loop.example/g00775/impl"
)

// knownSums are a key and a list each, with the sum, as another program found it, and how often it passes MixMod on the way.
var knownSums = []struct {
	key    int64
	list   []impl.Triple
	sum    int64
	passes int
}{
	{1, []impl.Triple{{At: 0, Time: 0, Value: 0}}, 462304453910648377, 0},
	{3, []impl.Triple{{At: 1, Time: 5, Value: 9}, {At: 1, Time: 7, Value: 2}, {At: 1, Time: 5, Value: 9}}, 569945319937078103, 1},
	{9, []impl.Triple{{At: 3, Time: 7, Value: 44}, {At: 3, Time: 8, Value: 45}, {At: 4, Time: 7, Value: 44}}, 2730640673683774146, 0},
	{77, []impl.Triple{{At: 23, Time: 100000, Value: 10006}, {}}, 238135937364346965, 1},
	{impl.MaxKey, []impl.Triple{{}, {At: 23, Time: 100000, Value: 10006}, {}, {At: 23, Time: 100000, Value: 10006}}, 3295365904504739554, 0},
	{500000, append(alike(impl.Triple{At: 1, Time: 2, Value: 3}, 3), alike(impl.Triple{At: 11, Time: 268, Value: 5000}, 2)...), 3904967287599565403, 2},
	{77, alike(impl.Triple{At: 23, Time: 100000, Value: 10006}, 300), 3177073721628960268, 158},
}

func alike(triple impl.Triple, many int) []impl.Triple {
	return slices.Repeat([]impl.Triple{triple}, many)
}

func someTriples(draw *rand.Rand, many int) []impl.Triple {
	list := make([]impl.Triple, many)
	for i := range list {
		list[i] = impl.Triple{
			At:    draw.Int63n(impl.MaxSectors),
			Time:  draw.Int63n(impl.MaxTime + 1),
			Value: draw.Int63n(impl.ValueMod),
		}
	}
	return list
}

// fewTriples draws from so few Triples that most of them stand in the list more than once; some of them are not right.
func fewTriples(draw *rand.Rand, many int) []impl.Triple {
	list := make([]impl.Triple, many)
	for i := range list {
		list[i] = impl.Triple{At: draw.Int63n(2) - 1, Time: draw.Int63n(3) - 1, Value: draw.Int63n(2) - 1}
	}
	return list
}

func shuffled(draw *rand.Rand, list []impl.Triple) []impl.Triple {
	mixed := slices.Clone(list)
	draw.Shuffle(len(mixed), func(i, j int) { mixed[i], mixed[j] = mixed[j], mixed[i] })
	return mixed
}

func inAnyOrder(a, b impl.Triple) int {
	return cmp.Or(cmp.Compare(a.At, b.At), cmp.Compare(a.Time, b.Time), cmp.Compare(a.Value, b.Value))
}

// sameSorted tells what SameBag tells of short lists, without a map.
func sameSorted(a, b []impl.Triple) bool {
	return slices.Equal(slices.SortedFunc(slices.Values(a), inAnyOrder), slices.SortedFunc(slices.Values(b), inAnyOrder))
}

// orders answers all orders of the list.
func orders(list []impl.Triple) [][]impl.Triple {
	if len(list) == 0 {
		return [][]impl.Triple{nil}
	}
	var all [][]impl.Triple
	for i := range list {
		for _, rest := range orders(slices.Delete(slices.Clone(list), i, i+1)) {
			all = append(all, append(rest, list[i]))
		}
	}
	return all
}

// bigSum adds the tags without SumOf and AddOf.
func bigSum(key int64, list []impl.Triple) int64 {
	sum := int64(0)
	for _, triple := range list {
		sum = bigAdd(sum, bigMix(key, []int64{2, triple.At, triple.Time, triple.Value}))
	}
	return sum
}

func wantSum(t *testing.T, key int64, list []impl.Triple, want int64) {
	t.Helper()
	if got := impl.SumOf(key, list); got != want {
		t.Errorf("SumOf(%d, %v) = %d, want %d", key, list, got, want)
	}
}

// wantSameBag asks in both directions, as neither list is ahead of the other.
func wantSameBag(t *testing.T, a, b []impl.Triple, want bool) {
	t.Helper()
	if got := impl.SameBag(a, b); got != want {
		t.Errorf("SameBag(%v, %v) = %t, want %t", a, b, got, want)
	}
	if got := impl.SameBag(b, a); got != want {
		t.Errorf("SameBag(%v, %v) = %t, want %t", b, a, got, want)
	}
}

func wantLatest(t *testing.T, list []impl.Triple, at int64, want impl.Triple) {
	t.Helper()
	if got, found := impl.Latest(list, at); got != want || !found {
		t.Errorf("Latest(%v, %d) = %v, %t, want %v, true", list, at, got, found, want)
	}
}

func wantNoLatest(t *testing.T, list []impl.Triple, at int64) {
	t.Helper()
	if got, found := impl.Latest(list, at); got != (impl.Triple{}) || found {
		t.Errorf("Latest(%v, %d) = %v, %t, want the zero Triple and false", list, at, got, found)
	}
}

func TestBagConstants(t *testing.T) {
	if impl.MaxBag != 300 {
		t.Fatal(impl.MaxBag)
	}
}

func TestSumOfNoTriple(t *testing.T) {
	for _, list := range [][]impl.Triple{nil, {}} {
		for _, key := range rightKeys {
			wantSum(t, key, list, 0)
		}
		for _, key := range wrongKeys {
			wantSum(t, key, list, -1)
		}
	}
}

func TestSumOfByHand(t *testing.T) {
	for _, known := range knownSums {
		wantSum(t, known.key, known.list, known.sum)
	}
}

// TestKnownSumsPassMixMod makes sure that the known sums try what they are there for.
func TestKnownSumsPassMixMod(t *testing.T) {
	for _, known := range knownSums {
		passes, sum := 0, int64(0)
		for _, triple := range known.list {
			next := bigAdd(sum, impl.TagOf(known.key, triple))
			if next < sum {
				passes++
			}
			sum = next
		}
		if passes != known.passes {
			t.Errorf("the sum of %v passes MixMod %d times, want %d", known.list, passes, known.passes)
		}
	}
}

func TestSumOfOneTriple(t *testing.T) {
	for _, key := range rightKeys {
		for _, triple := range edgeTriples() {
			wantSum(t, key, []impl.Triple{triple}, impl.TagOf(key, triple))
		}
	}
}

func TestSumOfATripleMoreThanOnce(t *testing.T) {
	// With this key the tag of the zero Triple is nearly MixMod, so that nearly each one more passes it.
	const key = 516833
	for _, triple := range []impl.Triple{{}, {At: 1, Time: 5, Value: 9}, {At: 23, Time: 100000, Value: 10006}} {
		sum := int64(0)
		for many := range 320 {
			wantSum(t, key, alike(triple, many), sum)
			sum = impl.AddOf(sum, impl.TagOf(key, triple))
		}
	}
}

func TestSumOfAnyLists(t *testing.T) {
	draw := rand.New(rand.NewSource(5))
	for range 200 {
		key := draw.Int63n(impl.MaxKey) + 1
		list := someTriples(draw, draw.Intn(60))
		list = append(list, list[:len(list)/2]...)
		wantSum(t, key, list, bigSum(key, list))
	}
}

// TestSumOfHasNoLimit goes past MaxBag, which is a limit of SameBag alone.
func TestSumOfHasNoLimit(t *testing.T) {
	draw := rand.New(rand.NewSource(6))
	for _, many := range []int{impl.MaxBag, impl.MaxBag + 1, 5000} {
		list := someTriples(draw, many)
		wantSum(t, 9, list, bigSum(9, list))
	}
}

func TestSumOfNoKey(t *testing.T) {
	for _, key := range wrongKeys {
		for _, known := range knownSums {
			wantSum(t, key, known.list, -1)
		}
		wantSum(t, key, []impl.Triple{{At: -1}}, -1)
	}
}

func TestSumOfWrongTriple(t *testing.T) {
	a, b := impl.Triple{At: 1, Time: 5, Value: 9}, impl.Triple{At: 23, Time: 100000, Value: 10006}
	for _, wrong := range oneFieldWrong() {
		for _, list := range [][]impl.Triple{
			{wrong}, {wrong, a, b}, {a, wrong, b}, {a, b, wrong}, {wrong, wrong}, {wrong, a, wrong}, {a, a, wrong, a, a},
		} {
			wantSum(t, 3, list, -1)
		}
	}
	for place := range 301 {
		list := alike(a, 301)
		list[place].Value = -1
		wantSum(t, 3, list, -1)
	}
}

// TestBagsAlikeHaveOneSum is promise 4, of a few Triples in all orders.
func TestBagsAlikeHaveOneSum(t *testing.T) {
	a := impl.Triple{At: 1, Time: 5, Value: 9}
	b := impl.Triple{At: 23, Time: 100000, Value: 10006}
	c := impl.Triple{At: 1, Time: 9, Value: 5}
	for _, list := range [][]impl.Triple{nil, {a}, {a, b}, {a, a, b}, {a, b, c, a}, {c, b, a, a, b, b}} {
		for _, key := range rightKeys {
			want := bigSum(key, list)
			for _, order := range orders(list) {
				wantSum(t, key, order, want)
				wantSameBag(t, list, order, true)
			}
		}
	}
}

func TestBagsAlikeHaveOneSumAnyhow(t *testing.T) {
	draw := rand.New(rand.NewSource(7))
	for range 300 {
		key := draw.Int63n(impl.MaxKey) + 1
		list := someTriples(draw, draw.Intn(impl.MaxBag/2+1))
		list = append(list, shuffled(draw, list)...)
		order := shuffled(draw, list)
		wantSum(t, key, order, impl.SumOf(key, list))
		wantSameBag(t, list, order, true)
	}
}

// TestBagsUnlikeHaveOtherSums draws bags that are unlike in one Triple, or in how many there are of two.
func TestBagsUnlikeHaveOtherSums(t *testing.T) {
	draw := rand.New(rand.NewSource(8))
	for range 300 {
		key := draw.Int63n(impl.MaxKey) + 1
		list := someTriples(draw, draw.Intn(100)+2)
		more := append(slices.Clone(list), list[0])
		other := append(slices.Clone(list), list[1])
		moved := slices.Clone(list)
		moved[0].Time = (moved[0].Time + 1) % (impl.MaxTime + 1)
		for _, pair := range [][2][]impl.Triple{{list, more}, {list, list[1:]}, {more, other}, {list, moved}} {
			wantSameBag(t, pair[0], pair[1], false)
			if impl.SumOf(key, pair[0]) == impl.SumOf(key, pair[1]) {
				t.Fatalf("with the key %d the bags %v and %v have one sum", key, pair[0], pair[1])
			}
		}
	}
}

func TestSameBagOfNoTriple(t *testing.T) {
	for _, a := range [][]impl.Triple{nil, {}} {
		for _, b := range [][]impl.Triple{nil, {}} {
			wantSameBag(t, a, b, true)
		}
		wantSameBag(t, a, []impl.Triple{{}}, false)
		wantSameBag(t, a, []impl.Triple{{At: -1}}, false)
		wantSameBag(t, a, alike(impl.Triple{}, impl.MaxBag), false)
	}
}

func TestSameBagByHand(t *testing.T) {
	a := impl.Triple{At: 1, Time: 5, Value: 9}
	b := impl.Triple{At: 1, Time: 7, Value: 2}
	c := impl.Triple{At: 2, Time: 5, Value: 9}
	wantSameBag(t, []impl.Triple{a}, []impl.Triple{a}, true)
	wantSameBag(t, []impl.Triple{a, b, a}, []impl.Triple{a, a, b}, true)
	wantSameBag(t, []impl.Triple{a, b, c}, []impl.Triple{c, a, b}, true)
	wantSameBag(t, []impl.Triple{a}, []impl.Triple{a, a}, false)
	wantSameBag(t, []impl.Triple{a, a, b}, []impl.Triple{a, b}, false)
	wantSameBag(t, []impl.Triple{a, a, b}, []impl.Triple{a, b, b}, false)
	wantSameBag(t, []impl.Triple{a, a, a, b, b, c}, []impl.Triple{a, a, b, b, b, c}, false)
	wantSameBag(t, []impl.Triple{a, a}, []impl.Triple{b, b}, false)
	wantSameBag(t, []impl.Triple{a, b}, []impl.Triple{a, c}, false)
}

func TestSameBagTellsEachFieldApart(t *testing.T) {
	a := impl.Triple{At: 1, Time: 2, Value: 3}
	for _, other := range []impl.Triple{
		{At: 0, Time: 2, Value: 3}, {At: 1, Time: 0, Value: 3}, {At: 1, Time: 2, Value: 0},
		{At: 2, Time: 1, Value: 3}, {At: 1, Time: 3, Value: 2}, {At: 3, Time: 2, Value: 1},
		{At: -1, Time: 2, Value: 3}, {At: 1, Time: 2, Value: 3 + impl.ValueMod}, {At: 1, Time: 2 + 1<<32, Value: 3},
	} {
		wantSameBag(t, []impl.Triple{a}, []impl.Triple{other}, false)
		wantSameBag(t, []impl.Triple{a, other}, []impl.Triple{a, a}, false)
		wantSameBag(t, []impl.Triple{a, other}, []impl.Triple{other, a}, true)
	}
}

func TestSameBagOfMaxBag(t *testing.T) {
	draw := rand.New(rand.NewSource(9))
	for _, whole := range [][]impl.Triple{
		alike(impl.Triple{At: 1, Time: 5, Value: 9}, impl.MaxBag+2),
		alike(impl.Triple{At: -1, Time: -5, Value: -9}, impl.MaxBag+2),
		someTriples(draw, impl.MaxBag+2),
	} {
		met, passed, far := whole[:impl.MaxBag], whole[:impl.MaxBag+1], whole
		wantSameBag(t, met, met, true)
		wantSameBag(t, met, shuffled(draw, met), true)
		wantSameBag(t, met[1:], shuffled(draw, met[1:]), true)
		wantSameBag(t, passed, passed, false)
		wantSameBag(t, passed, shuffled(draw, passed), false)
		wantSameBag(t, far, far, false)
		wantSameBag(t, met, passed, false)
		wantSameBag(t, passed, far, false)
		wantSameBag(t, nil, passed, false)
	}
}

func TestSameBagOfWrongTriples(t *testing.T) {
	a := impl.Triple{At: 1, Time: 5, Value: 9}
	for _, wrong := range oneFieldWrong() {
		wantSameBag(t, []impl.Triple{wrong}, []impl.Triple{wrong}, true)
		wantSameBag(t, []impl.Triple{wrong, a}, []impl.Triple{a, wrong}, true)
		wantSameBag(t, []impl.Triple{wrong, wrong, a}, []impl.Triple{wrong, a, a}, false)
		wantSameBag(t, []impl.Triple{wrong}, []impl.Triple{a}, false)
		wantSameBag(t, []impl.Triple{wrong}, []impl.Triple{{}}, false)
		wantSameBag(t, []impl.Triple{wrong}, nil, false)
	}
	least := impl.Triple{At: math.MinInt64, Time: math.MinInt64, Value: math.MinInt64}
	most := impl.Triple{At: math.MaxInt64, Time: math.MaxInt64, Value: math.MaxInt64}
	wantSameBag(t, []impl.Triple{least, most, least}, []impl.Triple{least, least, most}, true)
	wantSameBag(t, []impl.Triple{least, most, least}, []impl.Triple{most, least, most}, false)
}

func TestSameBagOfAnyLists(t *testing.T) {
	draw := rand.New(rand.NewSource(10))
	counts := map[bool]int{}
	for range 30000 {
		a := fewTriples(draw, draw.Intn(5))
		b := fewTriples(draw, draw.Intn(5))
		if draw.Intn(2) == 0 {
			b = shuffled(draw, a)
			if len(b) > 0 && draw.Intn(2) == 0 {
				b[0] = b[draw.Intn(len(b))]
			}
		}
		want := sameSorted(a, b)
		counts[want]++
		wantSameBag(t, a, b, want)
	}
	if counts[true] < 1000 || counts[false] < 1000 {
		t.Fatal(counts)
	}
}

func TestLatestByHand(t *testing.T) {
	list := []impl.Triple{{At: 3, Time: 4, Value: 1}, {At: 5, Time: 9, Value: 2}, {At: 3, Time: 7, Value: 3}, {At: 3, Time: 6, Value: 4}, {At: 0, Time: 0, Value: 5}}
	wantLatest(t, list, 3, list[2])
	wantLatest(t, list, 5, list[1])
	wantLatest(t, list, 0, list[4])
	wantLatest(t, list[:1], 3, list[0])
	for _, order := range orders(list) {
		wantLatest(t, order, 3, list[2])
	}
}

func TestLatestOfMoreWithThatTime(t *testing.T) {
	list := []impl.Triple{{At: 3, Time: 7, Value: 9}, {At: 3, Time: 7, Value: 1}, {At: 4, Time: 7, Value: 5}, {At: 3, Time: 7, Value: 4}, {At: 3, Time: 6, Value: 8}, {At: 2, Time: 8, Value: 6}}
	for many, want := range []int{0, 1, 1, 3, 3, 3} {
		wantLatest(t, list[:many+1], 3, list[want])
	}
	slices.Reverse(list)
	wantLatest(t, list, 3, impl.Triple{At: 3, Time: 7, Value: 9})
	wantLatest(t, []impl.Triple{{Value: 1}, {Value: 2}, {Value: 0}}, 0, impl.Triple{})
}

func TestLatestWhereThereIsNone(t *testing.T) {
	list := []impl.Triple{{At: 3, Time: 4, Value: 1}, {At: 5, Time: 9, Value: 2}}
	for _, at := range []int64{math.MinInt64, -3, -1, 0, 1, 2, 4, 6, 23, 24, math.MaxInt64} {
		wantNoLatest(t, list, at)
		wantNoLatest(t, nil, at)
		wantNoLatest(t, []impl.Triple{}, at)
	}
}

func TestLatestBelowZero(t *testing.T) {
	zero := impl.Triple{}
	wantLatest(t, []impl.Triple{zero}, 0, zero)
	for _, at := range []int64{math.MinInt64, -1, 0, 23, 24, math.MaxInt64} {
		for _, time := range []int64{math.MinInt64, -100, -1} {
			early := impl.Triple{At: at, Time: time, Value: -5}
			wantLatest(t, []impl.Triple{early}, at, early)
			wantLatest(t, []impl.Triple{{At: 7, Time: 9, Value: 9}, early}, at, early)
			late := impl.Triple{At: at, Time: time + 1, Value: 4}
			wantLatest(t, []impl.Triple{late, early}, at, late)
			wantLatest(t, []impl.Triple{early, late, early}, at, late)
			again := impl.Triple{At: at, Time: time, Value: 11000}
			wantLatest(t, []impl.Triple{early, again}, at, again)
		}
	}
	greatest := impl.Triple{At: -1, Time: math.MaxInt64, Value: math.MinInt64}
	wantLatest(t, []impl.Triple{{At: -1, Time: math.MinInt64}, greatest, {At: -1, Time: 100001}}, -1, greatest)
}

func TestLatestHasNoLimit(t *testing.T) {
	list := alike(impl.Triple{At: 1, Time: 5, Value: 9}, 5000)
	list[4321].Value = 10
	list[4999].At = 2
	wantLatest(t, list, 1, impl.Triple{At: 1, Time: 5, Value: 9})
	wantLatest(t, list, 2, impl.Triple{At: 2, Time: 5, Value: 9})
	list[4321].Time = 6
	wantLatest(t, list, 1, impl.Triple{At: 1, Time: 6, Value: 10})
}

func TestLatestOfAnyLists(t *testing.T) {
	draw := rand.New(rand.NewSource(11))
	for range 5000 {
		list := fewTriples(draw, draw.Intn(8))
		for at := int64(-2); at <= 1; at++ {
			those := slices.DeleteFunc(slices.Clone(list), func(x impl.Triple) bool { return x.At != at })
			if len(those) == 0 {
				wantNoLatest(t, list, at)
				continue
			}
			slices.SortStableFunc(those, func(a, b impl.Triple) int { return cmp.Compare(a.Time, b.Time) })
			wantLatest(t, list, at, those[len(those)-1])
		}
	}
}

func TestBagsLeaveTheirLists(t *testing.T) {
	a := impl.Triple{At: 1, Time: 5, Value: 9}
	for _, triples := range [][]impl.Triple{
		{a, {At: 1, Time: 7, Value: 2}, a, {At: 3, Time: 7, Value: 44}, {At: 1, Time: 8}},
		{a, {At: -1, Time: -7, Value: -2}, a, {At: 3, Time: 7, Value: 44}, {At: 1, Time: 8}},
	} {
		one, other := slices.Clone(triples), slices.Clone(triples)
		sum := impl.SumOf(3, one[:3])
		same := impl.SameBag(one[:3], other[:3])
		latest, _ := impl.Latest(one[:3], 1)
		if !slices.Equal(one, triples) || !slices.Equal(other, triples) {
			t.Fatalf("%v became %v and %v", triples, one, other)
		}
		wantSum(t, 3, one[:3], sum)
		wantSameBag(t, one[:3], other[:3], same)
		wantLatest(t, one[:3], 1, latest)
		wantSameBag(t, one[:3], one[:3], true)
	}
}
