package tests

import (
	"math"
	"math/big"
	"math/rand"
	"slices"
	"testing"

	"loop.example/g00775/impl"
)

// greatTrust has each number at its limit, in a region with 8 sectors.
var greatTrust = impl.Trust{Clock: impl.MaxTime, Epoch: impl.MaxEpoch, Cursor: 7, Read: impl.MixMod - 1, Written: impl.MixMod - 2, NextRead: impl.MixMod - 3, NextWritten: impl.MixMod - 4, Failed: true}

// knownMacs are some of a few Trusts each, as another program found them; not all of these Trusts are right.
var knownMacs = []struct {
	key    int64
	count  int64
	trusts []impl.Trust
	mac    int64
}{
	{1, 0, []impl.Trust{{Clock: 1, Written: 462325086933547975}}, 1306127390998260721},
	{9, 12, []impl.Trust{{Clock: 3, Written: 2730409935155612340}, {Clock: 2, Written: 1820470517149557403}}, 1668779500669376076},
	{77, 1, []impl.Trust{{Clock: 3, Written: 2619687288724411508}, {Clock: 2, Written: 209412420140377185}}, 899651775897963222},
	{9, impl.MaxCount, []impl.Trust{midTrust}, 1148851883776813739},
	{9, impl.MaxCount, []impl.Trust{{Clock: 300, Epoch: 4, Cursor: 2, Read: 11, Written: 12, NextRead: 13, NextWritten: 14, Failed: true}}, 1148851885924297388},
	{impl.MaxKey, impl.MaxCount, []impl.Trust{greatTrust, greatTrust, greatTrust}, 3110471672030622631},
	{500000, 9999, []impl.Trust{{}, greatTrust, midTrust, {Failed: true}}, 2777539782384081558},
	{9, 0, nil, 77391513997474787},
	{9, math.MaxInt64, nil, 77391795317931452},
	{9, impl.MaxCount + 1, []impl.Trust{{Clock: math.MaxInt64, Epoch: math.MaxInt64, Cursor: math.MaxInt64, Read: math.MaxInt64, Written: math.MaxInt64, NextRead: math.MaxInt64, NextWritten: math.MaxInt64, Failed: true}}, 3858940175092415596},
}

var (
	rightCounts = []int64{0, 1, 2, 5000, 9999, 10000}
	noCounts    = []int64{math.MinInt64, -10000, -2, -1, 10001, 10002, 100000, 4294967296, math.MaxInt64}
)

// allTrustFields are all numbers of a trust, with some that no region takes.
func allTrustFields() []trustField {
	cursor := trustField{name: "Cursor", of: func(t *impl.Trust) *int64 { return &t.Cursor }, wrong: []int64{math.MinInt64, -8, -1, 8, 9, 24, math.MaxInt64}}
	return append(trustFields(), cursor)
}

// macByWords is what the chapter tells, in numbers without a limit.
func macByWords(key, count int64, trusts []impl.Trust) int64 {
	list := []int64{3, count, int64(len(trusts))}
	for _, x := range trusts {
		failed := int64(0)
		if x.Failed {
			failed = 1
		}
		list = append(list, x.Clock, x.Epoch, x.Cursor, x.Read, x.Written, x.NextRead, x.NextWritten, failed)
	}
	if slices.Min(list) < 0 {
		return -1
	}
	return bigMix(key, list)
}

// sealByWords is what the chapter tells of a plan that is right.
func sealByWords(p impl.Plan, count int64, trusts []impl.Trust) impl.Seal {
	if count < 0 || count > 10000 || len(trusts) != len(p.Counts) {
		return impl.Seal{}
	}
	for region, x := range trusts {
		if !rightByWords(x, p.Counts[region]) {
			return impl.Seal{}
		}
	}
	return impl.Seal{Count: count, Trusts: slices.Clone(trusts), Mac: macByWords(p.Key, count, trusts)}
}

func sameSeal(a, b impl.Seal) bool {
	return a.Count == b.Count && slices.Equal(a.Trusts, b.Trusts) && a.Mac == b.Mac
}

func wantMac(t *testing.T, p impl.Plan, count int64, trusts []impl.Trust, want int64) {
	t.Helper()
	if got := impl.MacOf(p, count, trusts); got != want {
		t.Errorf("MacOf(%v, %d, %+v) = %d, want %d", p, count, trusts, got, want)
	}
}

func wantSealOk(t *testing.T, p impl.Plan, s impl.Seal, want bool) {
	t.Helper()
	if got := impl.SealOk(p, s); got != want {
		t.Errorf("SealOk(%v, %+v) = %t, want %t", p, s, got, want)
	}
}

// wantSealed asks for a Seal that keeps what it was made of, with the Mac of the chapter's words, and that is right.
func wantSealed(t *testing.T, p impl.Plan, count int64, trusts []impl.Trust) {
	t.Helper()
	got := impl.SealOf(p, count, trusts)
	want := impl.Seal{Count: count, Trusts: trusts, Mac: macByWords(p.Key, count, trusts)}
	if !sameSeal(got, want) {
		t.Errorf("SealOf(%v, %d, %+v) = %+v, want %+v", p, count, trusts, got, want)
	}
	wantMac(t, p, count, trusts, want.Mac)
	wantSealOk(t, p, got, true)
}

// wantNotSealed asks for the zero Seal; with the Mac of their mixing, or with none, these are not right either.
func wantNotSealed(t *testing.T, p impl.Plan, count int64, trusts []impl.Trust) {
	t.Helper()
	if got := impl.SealOf(p, count, trusts); !sameSeal(got, impl.Seal{}) {
		t.Errorf("SealOf(%v, %d, %+v) = %+v, want the zero Seal", p, count, trusts, got)
	}
	for _, mac := range []int64{macByWords(p.Key, count, trusts), 0, -1} {
		wantSealOk(t, p, impl.Seal{Count: count, Trusts: trusts, Mac: mac}, false)
	}
}

// drawnTrusts draws a right trust for each region, with no two alike.
func drawnTrusts(draw *rand.Rand, p impl.Plan) []impl.Trust {
	var trusts []impl.Trust
	for _, count := range p.Counts {
		x := someTrust(draw, draw.Int63n(count))
		x.Failed = draw.Intn(2) == 0
		trusts = append(trusts, x)
	}
	return trusts
}

func newTrusts(p impl.Plan) []impl.Trust {
	var trusts []impl.Trust
	for region := range p.Counts {
		x, _ := impl.NewTrust(p, int64(region))
		trusts = append(trusts, x)
	}
	return trusts
}

// eachSealed calls with drawn trusts, and with new ones, of each of the known plans.
func eachSealed(seed int64, call func(draw *rand.Rand, p impl.Plan, trusts []impl.Trust)) {
	draw := rand.New(rand.NewSource(seed))
	for _, known := range knownPlans {
		p := planOf(draw.Int63n(impl.MaxKey)+1, known.counts...)
		call(draw, p, newTrusts(p))
		for range 5 {
			call(draw, p, drawnTrusts(draw, p))
		}
	}
}

// resealed is the seal with Trusts of its own, which may be changed.
func resealed(s impl.Seal) impl.Seal {
	s.Trusts = slices.Clone(s.Trusts)
	return s
}

func TestSealConstants(t *testing.T) {
	if impl.MaxCount != 10000 {
		t.Fatal(impl.MaxCount)
	}
}

func TestMacsByHand(t *testing.T) {
	for _, known := range knownMacs {
		wantMac(t, planOf(known.key, 3, 2), known.count, known.trusts, known.mac)
		if mac := macByWords(known.key, known.count, known.trusts); mac != known.mac {
			t.Errorf("the words make %d, want %d", mac, known.mac)
		}
	}
	x := impl.Trust{Clock: 21, Epoch: 22, Cursor: 23, Read: 24, Written: 25, NextRead: 26, NextWritten: 27, Failed: true}
	y := impl.Trust{Clock: 31, Epoch: 32, Cursor: 33, Read: 34, Written: 35, NextRead: 36, NextWritten: 37}
	p := planOf(9, 3, 2)
	wantMac(t, p, 5, []impl.Trust{x, y}, impl.MixOf(9, []int64{3, 5, 2, 21, 22, 23, 24, 25, 26, 27, 1, 31, 32, 33, 34, 35, 36, 37, 0}))
	wantMac(t, p, 5, []impl.Trust{y, x}, impl.MixOf(9, []int64{3, 5, 2, 31, 32, 33, 34, 35, 36, 37, 0, 21, 22, 23, 24, 25, 26, 27, 1}))
}

func TestMacOfNoTrusts(t *testing.T) {
	for _, known := range knownPlans {
		for _, key := range rightKeys {
			for _, count := range append([]int64{10001, 4294967296, math.MaxInt64}, rightCounts...) {
				p := planOf(key, known.counts...)
				wantMac(t, p, count, nil, impl.MixOf(key, []int64{3, count, 0}))
				wantMac(t, p, count, []impl.Trust{}, impl.MixOf(key, []int64{3, count, 0}))
			}
		}
	}
}

// TestMacOfAnyMany has fewer Trusts than regions and more, also many more.
func TestMacOfAnyMany(t *testing.T) {
	draw := rand.New(rand.NewSource(25))
	p := planOf(77, 8, 8)
	for _, many := range []int{1, 2, 3, 4, 5, 24, 25, 1000} {
		var trusts []impl.Trust
		for range many {
			trusts = append(trusts, someTrust(draw, draw.Int63n(8)))
		}
		for _, count := range rightCounts {
			wantMac(t, p, count, trusts, macByWords(77, count, trusts))
		}
	}
}

// TestMacOfTrustsThatAreNotRight has numbers past each limit, but none below 0.
func TestMacOfTrustsThatAreNotRight(t *testing.T) {
	p := planOf(9, 3, 4, 2)
	for _, field := range allTrustFields() {
		for place := range 3 {
			for _, wrong := range field.wrong {
				trusts := []impl.Trust{midTrust, {}, midTrust}
				*field.of(&trusts[place]) = wrong
				want := macByWords(9, 12, trusts)
				wantMac(t, p, 12, trusts, want)
				if (want < 0) != (wrong < 0) {
					t.Errorf("%s is %d, and the Mac %d", field.name, wrong, want)
				}
			}
		}
	}
	wantMac(t, p, 12, []impl.Trust{{NextRead: 5, NextWritten: 6}}, impl.MixOf(9, []int64{3, 12, 1, 0, 0, 0, 0, 0, 5, 6, 0}))
}

func TestMacOfANumberBelow0(t *testing.T) {
	p := planOf(9, 3, 4, 2)
	for _, below := range []int64{math.MinInt64, math.MinInt64 + 1, -2147483647, -2147483629, -2, -1} {
		wantMac(t, p, below, []impl.Trust{midTrust, midTrust, {}}, -1)
		wantMac(t, p, below, nil, -1)
		for _, field := range allTrustFields() {
			for many := 1; many <= 5; many++ {
				for place := range many {
					trusts := slices.Repeat([]impl.Trust{midTrust}, many)
					*field.of(&trusts[place]) = below
					wantMac(t, p, 12, trusts, -1)
				}
			}
		}
	}
}

func TestMacOfNoPlan(t *testing.T) {
	for _, p := range wrongPlans() {
		for _, trusts := range [][]impl.Trust{nil, {{}}, {midTrust, {}}, {midTrust, midTrust, midTrust}} {
			wantMac(t, p, 0, trusts, -1)
			wantMac(t, p, 12, trusts, -1)
			wantMac(t, p, -1, trusts, -1)
		}
	}
}

func TestSealsByHand(t *testing.T) {
	wantSealed(t, planOf(1, 1), 0, knownMacs[0].trusts)
	wantSealed(t, planOf(9, 3, 2), 12, knownMacs[1].trusts)
	wantSealed(t, planOf(77, 3, 2), 1, knownMacs[2].trusts)
	wantSealed(t, planOf(impl.MaxKey, 8, 8, 8), impl.MaxCount, knownMacs[5].trusts)
	wantSealed(t, planOf(500000, 1, 8, 7, 8), 9999, knownMacs[6].trusts)
}

// TestSealsKeepWhatTheyAreMadeOf has each known plan, and counts at both limits.
func TestSealsKeepWhatTheyAreMadeOf(t *testing.T) {
	eachSealed(26, func(draw *rand.Rand, p impl.Plan, trusts []impl.Trust) {
		for _, count := range append([]int64{draw.Int63n(impl.MaxCount + 1)}, rightCounts...) {
			wantSealed(t, p, count, trusts)
		}
	})
}

// TestSealsOfTrustsWithNumbersAtTheirLimits puts each number that a field may have into each Trust.
func TestSealsOfTrustsWithNumbersAtTheirLimits(t *testing.T) {
	p := planOf(9, 4, 8, 3)
	for _, field := range trustFields() {
		for region := range 3 {
			for _, right := range field.right {
				trusts := []impl.Trust{midTrust, midTrust, midTrust}
				*field.of(&trusts[region]) = right
				wantSealed(t, p, 12, trusts)
			}
		}
	}
	wantSealed(t, p, 12, []impl.Trust{{Cursor: 3}, {Cursor: 7}, {Cursor: 2}})
	wantSealed(t, p, 0, []impl.Trust{{}, {}, {}})
	wantSealed(t, p, 0, []impl.Trust{{Failed: true}, {}, {Failed: true}})
}

func TestSealsOfNoCount(t *testing.T) {
	eachSealed(27, func(_ *rand.Rand, p impl.Plan, trusts []impl.Trust) {
		for _, count := range noCounts {
			wantNotSealed(t, p, count, trusts)
		}
	})
}

func TestSealsOfNoPlan(t *testing.T) {
	for _, p := range wrongPlans() {
		for many := range 7 {
			for _, count := range []int64{0, 1, impl.MaxCount, -1} {
				wantNotSealed(t, p, count, make([]impl.Trust, many))
				wantNotSealed(t, p, count, slices.Repeat([]impl.Trust{{Clock: 3, Written: 5}}, many))
			}
		}
	}
}

// TestSealsOfFewerOrMoreTrusts has lists of any length but that one.
func TestSealsOfFewerOrMoreTrusts(t *testing.T) {
	eachSealed(28, func(_ *rand.Rand, p impl.Plan, trusts []impl.Trust) {
		for many := range trusts {
			wantNotSealed(t, p, 12, trusts[:many])
			wantNotSealed(t, p, 0, trusts[:many])
		}
		wantNotSealed(t, p, 0, nil)
		wantNotSealed(t, p, 12, append(slices.Clone(trusts), impl.Trust{}))
		wantNotSealed(t, p, 12, append(slices.Clone(trusts), trusts[0]))
		wantNotSealed(t, p, 12, slices.Repeat(trusts, 2))
		wantNotSealed(t, p, 12, slices.Repeat(trusts, 100))
	})
}

func TestSealsOfAWrongTrust(t *testing.T) {
	eachSealed(29, func(_ *rand.Rand, p impl.Plan, trusts []impl.Trust) {
		for region := range trusts {
			for _, field := range allTrustFields() {
				for _, wrong := range field.wrong {
					changed := slices.Clone(trusts)
					*field.of(&changed[region]) = wrong
					wantNotSealed(t, p, 12, changed)
				}
			}
			for _, early := range []impl.Trust{{NextRead: 1}, {NextWritten: 1}, {NextRead: 13, NextWritten: 14, Failed: true}, {Cursor: p.Counts[region]}} {
				changed := slices.Clone(trusts)
				changed[region] = early
				wantNotSealed(t, p, 12, changed)
			}
		}
	})
}

// TestSealsAskForTheOrder has Trusts that are right for other regions than those in whose order they stand.
func TestSealsAskForTheOrder(t *testing.T) {
	p := planOf(9, 4, 1, 2)
	a, b, c := impl.Trust{Cursor: 3, Read: 1}, impl.Trust{Read: 2}, impl.Trust{Cursor: 1, Read: 3}
	wantSealed(t, p, 12, []impl.Trust{a, b, c})
	wantSealed(t, p, 12, []impl.Trust{c, b, b})
	for _, trusts := range [][]impl.Trust{{a, c, b}, {b, a, c}, {b, c, a}, {c, a, b}, {c, b, a}, {a, a, a}, {c, c, c}} {
		wantNotSealed(t, p, 12, trusts)
	}
}

// TestTheZeroSealIsNotRight has it with plans of all kinds, and with a Count, or with the Mac of no Trusts.
func TestTheZeroSealIsNotRight(t *testing.T) {
	plans := wrongPlans()
	for _, known := range knownPlans {
		plans = append(plans, planOf(9, known.counts...))
	}
	for _, p := range plans {
		wantSealOk(t, p, impl.Seal{}, false)
		wantSealOk(t, p, impl.Seal{Trusts: []impl.Trust{}}, false)
		for _, count := range append(slices.Clone(rightCounts), noCounts...) {
			wantSealOk(t, p, impl.Seal{Count: count}, false)
			wantSealOk(t, p, impl.Seal{Count: count, Mac: -1}, false)
			wantSealOk(t, p, impl.Seal{Count: count, Mac: impl.MacOf(p, count, nil)}, false)
		}
	}
}

// TestSealsWithAnotherCountAreNotRight is promise 10 of the Count: of all that it may be, one is right.
func TestSealsWithAnotherCountAreNotRight(t *testing.T) {
	p := planOf(9, 3, 2)
	trusts := newTrusts(p)
	for _, made := range []int64{0, 12, impl.MaxCount} {
		s := impl.SealOf(p, made, trusts)
		for s.Count = int64(-2); s.Count <= impl.MaxCount+2; s.Count++ {
			wantSealOk(t, p, s, s.Count == made)
		}
	}
	eachSealed(30, func(draw *rand.Rand, p impl.Plan, trusts []impl.Trust) {
		made := draw.Int63n(impl.MaxCount + 1)
		s := impl.SealOf(p, made, trusts)
		for _, count := range append([]int64{made - 1, made + 1, -made - 1}, slices.Concat(rightCounts, noCounts)...) {
			s.Count = count
			wantSealOk(t, p, s, count == made)
		}
	})
}

// TestSealsWithAnotherMacAreNotRight is promise 10 of the Mac.
func TestSealsWithAnotherMacAreNotRight(t *testing.T) {
	eachSealed(31, func(draw *rand.Rand, p impl.Plan, trusts []impl.Trust) {
		s := impl.SealOf(p, 12, trusts)
		right := s.Mac
		other := impl.SealOf(p, 13, trusts).Mac
		for _, mac := range []int64{right + 1, right - 1, -right, right ^ 1<<40, right + impl.MixMod, right % 2147483648, 0, -1, other, draw.Int63n(impl.MixMod), math.MinInt64, math.MaxInt64} {
			s.Mac = mac
			wantSealOk(t, p, s, mac == right)
		}
		s.Mac = right
		wantSealOk(t, p, s, true)
	})
}

// TestSealsWithAnotherTrustAreNotRight is promise 10 of each field of each Trust, with numbers that a Trust may have and with others.
func TestSealsWithAnotherTrustAreNotRight(t *testing.T) {
	eachSealed(32, func(_ *rand.Rand, p impl.Plan, trusts []impl.Trust) {
		made := impl.SealOf(p, 12, trusts)
		for region, x := range trusts {
			s := resealed(made)
			s.Trusts[region].Failed = !x.Failed
			wantSealOk(t, p, s, false)
			for _, field := range allTrustFields() {
				old := *field.of(&x)
				for _, number := range slices.Concat(field.right, field.wrong, []int64{old - 1, old + 1, old + 2147483647, old + 2147483629, old ^ 1<<31, 0, 1, 2, 3, 4, 5, 6, 7}) {
					s := resealed(made)
					*field.of(&s.Trusts[region]) = number
					wantSealOk(t, p, s, number == old)
				}
			}
			if t.Failed() {
				t.FailNow()
			}
		}
		wantSealOk(t, p, made, true)
	})
}

// TestSealsWithTrustsInAnotherOrderAreNotRight is promise 10 of the order, with Trusts that would be right in any order.
func TestSealsWithTrustsInAnotherOrderAreNotRight(t *testing.T) {
	draw := rand.New(rand.NewSource(33))
	for range 200 {
		p := planOf(draw.Int63n(impl.MaxKey)+1, slices.Repeat([]int64{6}, draw.Intn(3)+2)...)
		made := impl.SealOf(p, 12, drawnTrusts(draw, p))
		for a := range made.Trusts {
			for b := range a {
				s := resealed(made)
				s.Trusts[a], s.Trusts[b] = s.Trusts[b], s.Trusts[a]
				wantSealOk(t, p, s, false)
				wantSealed(t, p, 12, s.Trusts)
			}
		}
		s := resealed(made)
		slices.Reverse(s.Trusts)
		wantSealOk(t, p, s, false)
		wantSealOk(t, p, made, true)
	}
}

// TestSealsWithFewerOrMoreTrustsAreNotRight is promise 10 of how many there are.
func TestSealsWithFewerOrMoreTrustsAreNotRight(t *testing.T) {
	eachSealed(34, func(_ *rand.Rand, p impl.Plan, trusts []impl.Trust) {
		made := impl.SealOf(p, 12, trusts)
		for region := range trusts {
			s := resealed(made)
			s.Trusts = slices.Delete(s.Trusts, region, region+1)
			wantSealOk(t, p, s, false)
			s = resealed(made)
			s.Trusts = slices.Insert(s.Trusts, region, impl.Trust{})
			wantSealOk(t, p, s, false)
			s.Trusts = s.Trusts[:len(trusts)]
			wantSealOk(t, p, s, slices.Equal(s.Trusts, trusts))
		}
		for _, more := range []impl.Trust{{}, trusts[0], midTrust} {
			s := resealed(made)
			s.Trusts = append(s.Trusts, more)
			wantSealOk(t, p, s, false)
		}
		s := made
		s.Trusts = nil
		wantSealOk(t, p, s, false)
	})
}

// TestSealsOfAnotherKeyAreNotRight has all else as it was.
func TestSealsOfAnotherKeyAreNotRight(t *testing.T) {
	eachSealed(35, func(_ *rand.Rand, p impl.Plan, trusts []impl.Trust) {
		s := impl.SealOf(p, 12, trusts)
		for _, key := range slices.Concat([]int64{p.Key - 1, p.Key + 1, -p.Key}, rightKeys, wrongKeys) {
			wantSealOk(t, planOf(key, p.Counts...), s, key == p.Key)
		}
	})
}

// TestSealsTellNothingOfTheCounts has plans with other Counts: a Seal is right with each of them with which its Trusts are.
func TestSealsTellNothingOfTheCounts(t *testing.T) {
	trusts := []impl.Trust{{Cursor: 2, Read: 5}, {Cursor: 1}}
	s := impl.SealOf(planOf(9, 3, 2), 12, trusts)
	for _, counts := range [][]int64{{3, 2}, {3, 8}, {8, 2}, {8, 8}} {
		wantSealed(t, planOf(9, counts...), 12, trusts)
		wantSealOk(t, planOf(9, counts...), s, true)
	}
	for _, counts := range [][]int64{{2, 2}, {3, 1}, {2, 3}, {3, 9}, {3}, {3, 2, 1}} {
		wantSealOk(t, planOf(9, counts...), s, false)
	}
}

// makingUp is by how much a Written is more, so that a mixing does not notice that its Failed is 1 less.
func makingUp() int64 {
	upper, lower := big.NewInt(2147483647), big.NewInt(2147483629)
	// The Failed is rolled in three numbers behind the Written.
	wantUpper := new(big.Int).ModInverse(big.NewInt(131*131*131), upper)
	wantLower := new(big.Int).ModInverse(big.NewInt(137*137*137), lower)
	rounds := new(big.Int).Sub(wantLower, wantUpper)
	rounds.Mul(rounds, new(big.Int).ModInverse(upper, lower)).Mod(rounds, lower)
	return rounds.Mul(rounds, upper).Add(rounds, wantUpper).Int64()
}

// TestTheSealAsksForTheMacAlone has changes that make up for each other: what stands in the Seal is not what was sealed, but the chapter's mixing comes to the same Mac, and that is what the chapter asks for.
func TestTheSealAsksForTheMacAlone(t *testing.T) {
	p := planOf(9, 3, 2)
	made := impl.SealOf(p, 12, []impl.Trust{midTrust, {Clock: 9, Epoch: 3, Read: 11, Written: 12, Failed: true}})
	round, unfailed := resealed(made), resealed(made)
	round.Trusts[0].Read += 2147483647 * 2147483629
	unfailed.Trusts[1].Failed = false
	wantSealOk(t, p, unfailed, false)
	unfailed.Trusts[1].Written += makingUp()
	for _, s := range []impl.Seal{round, unfailed} {
		if sameSeal(s, made) {
			t.Fatal(s)
		}
		wantSealed(t, p, 12, s.Trusts)
		wantSealOk(t, p, s, true)
	}
}

// TestSealsOfAnyNumbers holds SealOf and SealOk against the chapter's words, of numbers at and past all limits.
func TestSealsOfAnyNumbers(t *testing.T) {
	draw := rand.New(rand.NewSource(36))
	counts := map[bool]int{}
	for range 30000 {
		known := knownPlans[draw.Intn(len(knownPlans))]
		p := planOf(draw.Int63n(impl.MaxKey)+1, known.counts...)
		count, trusts := anyTrusts(draw, p)
		want := sealByWords(p, count, trusts)
		if got := impl.SealOf(p, count, trusts); !sameSeal(got, want) {
			t.Fatalf("SealOf(%v, %d, %+v) = %+v, want %+v", p, count, trusts, got, want)
		}
		wantMac(t, p, count, trusts, macByWords(p.Key, count, trusts))
		s := impl.Seal{Count: count, Trusts: trusts, Mac: macByWords(p.Key, count, trusts)}
		if draw.Intn(4) == 0 {
			s.Mac = anyNumber(draw, impl.MixMod-1)
		}
		right := len(want.Trusts) > 0 && sameSeal(s, want)
		counts[right]++
		wantSealOk(t, p, s, right)
		if t.Failed() {
			t.FailNow()
		}
	}
	if counts[true] < 5000 || counts[false] < 5000 {
		t.Fatal(counts)
	}
}

// anyTrusts draws a count and Trusts that may be sealed, and then perhaps something that may not.
func anyTrusts(draw *rand.Rand, p impl.Plan) (int64, []impl.Trust) {
	count, trusts := draw.Int63n(impl.MaxCount+1), drawnTrusts(draw, p)
	region := draw.Intn(len(trusts))
	switch draw.Intn(8) {
	case 0:
		count = anyNumber(draw, impl.MaxCount)
	case 1:
		trusts[region] = anyTrust(draw, p.Counts[region])
	case 2:
		trusts = trusts[:region]
	case 3:
		trusts = append(trusts, trusts[region])
	case 4:
		other := draw.Intn(len(trusts))
		trusts[region], trusts[other] = trusts[other], trusts[region]
	}
	return count, trusts
}

// TestSealsLeaveWhatTheyAreGiven gives Counts and Trusts with spare room behind them.
func TestSealsLeaveWhatTheyAreGiven(t *testing.T) {
	counts := []int64{3, 4, 2, 5, 8, 8}
	trusts := []impl.Trust{midTrust, {Clock: 4, Written: 5}, {Failed: true}, midTrust, greatTrust, {Clock: -1}}
	for regions := range len(counts) + 1 {
		for many := range len(trusts) + 1 {
			givenCounts, givenTrusts := slices.Clone(counts), slices.Clone(trusts)
			p := impl.Plan{Key: 9, Counts: givenCounts[:regions]}
			s := impl.SealOf(p, 12, givenTrusts[:many])
			mac := impl.MacOf(p, 12, givenTrusts[:many])
			ok := impl.SealOk(p, impl.Seal{Count: 12, Trusts: givenTrusts[:many], Mac: mac})
			if !slices.Equal(givenCounts, counts) || !slices.Equal(givenTrusts, trusts) {
				t.Fatalf("%v and %+v became %v and %+v", counts, trusts, givenCounts, givenTrusts)
			}
			if right := regions == many && regions >= 1 && regions <= 4; ok != right || (len(s.Trusts) > 0) != right {
				t.Errorf("%d regions and %d Trusts: %+v and %t", regions, many, s, ok)
			}
		}
	}
}

// TestSealsAnswerNewMemory writes into the answer, and into the spare room behind it, and then into what was given.
func TestSealsAnswerNewMemory(t *testing.T) {
	eachSealed(37, func(_ *rand.Rand, p impl.Plan, trusts []impl.Trust) {
		kept := slices.Clone(trusts)
		given := append(slices.Clone(trusts), greatTrust)[:len(trusts)]
		first, second := impl.SealOf(p, 12, given), impl.SealOf(p, 12, given)
		spoilt := first.Trusts[:cap(first.Trusts)]
		for i := range spoilt {
			spoilt[i] = impl.Trust{Clock: -5}
		}
		if !slices.Equal(given, kept) || given[:len(given)+1][len(given)] != greatTrust {
			t.Fatalf("%+v became %+v", kept, given)
		}
		for i := range given {
			given[i] = impl.Trust{Clock: -6}
		}
		if !slices.Equal(second.Trusts, kept) {
			t.Fatalf("the Trusts %+v became %+v", kept, second.Trusts)
		}
		wantSealOk(t, p, first, false)
		wantSealOk(t, p, second, true)
	})
}

// TestSealsKeepNothing seals as before after others, some of which were not right.
func TestSealsKeepNothing(t *testing.T) {
	p, other := planOf(9, 3, 2), planOf(9, 3, 2, 4)
	trusts := newTrusts(p)
	s := impl.SealOf(p, 12, trusts)
	for range 3 {
		wantSealed(t, p, 12, trusts)
		wantSealOk(t, p, s, true)
		wantSealed(t, other, 13, newTrusts(other))
		wantSealOk(t, other, s, false)
		wantNotSealed(t, p, -1, trusts)
		wantNotSealed(t, impl.Plan{}, 12, trusts)
		trusts[1].Epoch++
		wantSealed(t, p, 12, trusts)
		trusts[1].Epoch--
	}
	if s.Count != 12 || len(s.Trusts) != 2 || s.Trusts[1] != trusts[1] {
		t.Fatal(s)
	}
}
