package tests

import (
	"math"
	"math/rand"
	"slices"
	"testing"

	"loop.example/g00775/impl"
)

// knownSlots are a plan each, with a Slot of new Trusts and their Cells whose Mac and hidden values another program found.
var knownSlots = []struct {
	key    int64
	counts []int64
	slot   impl.Slot
}{
	{1, []int64{1}, impl.Slot{
		Seal:  impl.Seal{Count: 0, Trusts: []impl.Trust{{Clock: 1, Written: 462325086933547975}}, Mac: 1306127390998260721},
		Cells: []impl.Cell{{Time: 1, Value: 9477}},
	}},
	{9, []int64{3, 2}, impl.Slot{
		Seal:  impl.Seal{Count: 12, Trusts: []impl.Trust{{Clock: 3, Written: 2730409935155612340}, {Clock: 2, Written: 1820470517149557403}}, Mac: 1668779500669376076},
		Cells: []impl.Cell{{Time: 1, Value: 1981}, {Time: 2, Value: 4970}, {Time: 3, Value: 7959}, {Time: 1, Value: 6559}, {Time: 2, Value: 9548}},
	}},
	{77, []int64{3, 2}, impl.Slot{
		Seal:  impl.Seal{Count: 1, Trusts: []impl.Trust{{Clock: 3, Written: 2619687288724411508}, {Clock: 2, Written: 209412420140377185}}, Mac: 899651775897963222},
		Cells: []impl.Cell{{Time: 1, Value: 8314}, {Time: 2, Value: 1296}, {Time: 3, Value: 4285}, {Time: 1, Value: 2885}, {Time: 2, Value: 5874}},
	}},
}

func wantSlotOk(t *testing.T, p impl.Plan, s impl.Slot, want bool) {
	t.Helper()
	if got := impl.SlotOk(p, s); got != want {
		t.Errorf("SlotOk(%v, %+v) = %t, want %t", p, s, got, want)
	}
}

func wantChosen(t *testing.T, p impl.Plan, slots []impl.Slot, count, want int64) {
	t.Helper()
	if got := impl.Chosen(p, slots, count); got != want {
		t.Errorf("Chosen(%v, %+v, %d) = %d, want %d", p, slots, count, got, want)
	}
}

// wantRightSlot asks for a Slot that is chosen by its own Count, and by no other one.
func wantRightSlot(t *testing.T, p impl.Plan, s impl.Slot) {
	t.Helper()
	wantSlotOk(t, p, s, true)
	wantChosen(t, p, []impl.Slot{s}, s.Seal.Count, 0)
	for _, other := range []int64{s.Seal.Count - 1, s.Seal.Count + 1, -s.Seal.Count - 1, math.MinInt64, math.MaxInt64} {
		wantChosen(t, p, []impl.Slot{s}, other, -1)
	}
}

// wantWrongSlot asks for a Slot that is not chosen, not even by the Count that it has.
func wantWrongSlot(t *testing.T, p impl.Plan, s impl.Slot) {
	t.Helper()
	wantSlotOk(t, p, s, false)
	for _, slots := range [][]impl.Slot{{s}, {s, {}}, {{}, s}, {s, s, s}} {
		wantChosen(t, p, slots, s.Seal.Count, -1)
	}
}

// slotByWords is what the chapter tells of a plan that is right, with the mixing of another layer's test.
func slotByWords(p impl.Plan, s impl.Slot) bool {
	seal := sealByWords(p, s.Seal.Count, s.Seal.Trusts)
	if len(seal.Trusts) == 0 || seal.Mac != s.Seal.Mac || int64(len(s.Cells)) != together(p.Counts) {
		return false
	}
	for _, c := range s.Cells {
		if c.Time < 0 || c.Time > 100000 || c.Value < 0 || c.Value > 10006 {
			return false
		}
	}
	return true
}

func chosenByWords(p impl.Plan, slots []impl.Slot, count int64) int64 {
	return int64(slices.IndexFunc(slots, func(s impl.Slot) bool { return s.Seal.Count == count && slotByWords(p, s) }))
}

// drawnCells draws a right cell for each sector.
func drawnCells(draw *rand.Rand, p impl.Plan) []impl.Cell {
	var cells []impl.Cell
	for range together(p.Counts) {
		cells = append(cells, impl.Cell{Time: draw.Int63n(impl.MaxTime + 1), Value: draw.Int63n(impl.ValueMod)})
	}
	return cells
}

func newCells(p impl.Plan) []impl.Cell {
	var cells []impl.Cell
	for region := range p.Counts {
		_, more := impl.NewTrust(p, int64(region))
		cells = append(cells, more...)
	}
	return cells
}

func newSlot(p impl.Plan, count int64) impl.Slot {
	return impl.Slot{Seal: impl.SealOf(p, count, newTrusts(p)), Cells: newCells(p)}
}

func drawnSlot(draw *rand.Rand, p impl.Plan, count int64) impl.Slot {
	return impl.Slot{Seal: impl.SealOf(p, count, drawnTrusts(draw, p)), Cells: drawnCells(draw, p)}
}

// cloned is the Slot with memory of its own, which may be changed.
func cloned(s impl.Slot) impl.Slot {
	return impl.Slot{Seal: resealed(s.Seal), Cells: slices.Clone(s.Cells)}
}

func clonedAll(slots []impl.Slot) []impl.Slot {
	var list []impl.Slot
	for _, s := range slots {
		list = append(list, cloned(s))
	}
	return list
}

func sameSlot(a, b impl.Slot) bool {
	return sameSeal(a.Seal, b.Seal) && slices.Equal(a.Cells, b.Cells)
}

// eachSlot calls with a Slot of new Trusts and Cells, and with drawn ones, of each of the known plans.
func eachSlot(seed int64, call func(draw *rand.Rand, p impl.Plan, s impl.Slot)) {
	draw := rand.New(rand.NewSource(seed))
	for _, known := range knownPlans {
		p := planOf(draw.Int63n(impl.MaxKey)+1, known.counts...)
		call(draw, p, newSlot(p, draw.Int63n(impl.MaxCount-1)+1))
		for range 3 {
			call(draw, p, drawnSlot(draw, p, draw.Int63n(impl.MaxCount-1)+1))
		}
	}
}

// brokenSlots are some that have the Count of a right one, each with one thing that is not right.
func brokenSlots(right impl.Slot) []impl.Slot {
	var list []impl.Slot
	last := len(right.Cells) - 1
	for _, change := range []func(s *impl.Slot){
		func(s *impl.Slot) { s.Seal.Mac++ },
		func(s *impl.Slot) { s.Seal.Mac = 0 },
		func(s *impl.Slot) { s.Seal.Trusts[0].Clock ^= 1 },
		func(s *impl.Slot) { s.Seal.Trusts[0].Failed = !s.Seal.Trusts[0].Failed },
		func(s *impl.Slot) { s.Seal.Trusts = s.Seal.Trusts[1:] },
		func(s *impl.Slot) { s.Seal.Trusts = append(s.Seal.Trusts, impl.Trust{}) },
		func(s *impl.Slot) { s.Seal = impl.Seal{Count: s.Seal.Count} },
		func(s *impl.Slot) { s.Cells = nil },
		func(s *impl.Slot) { s.Cells = s.Cells[:last] },
		func(s *impl.Slot) { s.Cells = append(s.Cells, impl.Cell{}) },
		func(s *impl.Slot) { s.Cells[0].Time = -1 },
		func(s *impl.Slot) { s.Cells[0].Value = impl.ValueMod },
		func(s *impl.Slot) { s.Cells[last].Time = impl.MaxTime + 1 },
		func(s *impl.Slot) { s.Cells[last].Value = -1 },
		func(s *impl.Slot) { *s = impl.Slot{Seal: impl.Seal{Count: s.Seal.Count}} },
	} {
		s := cloned(right)
		change(&s)
		list = append(list, s)
	}
	return list
}

func TestSlotsByHand(t *testing.T) {
	for _, known := range knownSlots {
		p := planOf(known.key, known.counts...)
		wantRightSlot(t, p, known.slot)
		if s := newSlot(p, known.slot.Seal.Count); !sameSlot(s, known.slot) {
			t.Errorf("new Trusts and Cells make %+v, want %+v", s, known.slot)
		}
	}
}

// TestSlotsOfRightTrustsAndCells has each known plan, and counts at both limits.
func TestSlotsOfRightTrustsAndCells(t *testing.T) {
	eachSlot(38, func(_ *rand.Rand, p impl.Plan, s impl.Slot) {
		wantRightSlot(t, p, s)
		for _, count := range rightCounts {
			s.Seal = impl.SealOf(p, count, s.Seal.Trusts)
			wantRightSlot(t, p, s)
		}
	})
}

// TestSlotsWithNumbersAtTheirLimits has the greatest plan, and all that is in the Slot at its limit.
func TestSlotsWithNumbersAtTheirLimits(t *testing.T) {
	p := planOf(impl.MaxKey, 8, 8, 8)
	for _, x := range []impl.Trust{greatTrust, {}, {Failed: true}} {
		for _, c := range edgeCells() {
			s := impl.Slot{Seal: impl.SealOf(p, impl.MaxCount, slices.Repeat([]impl.Trust{x}, 3)), Cells: slices.Repeat([]impl.Cell{c}, 24)}
			wantRightSlot(t, p, s)
		}
	}
}

// TestSlotsOfAnyRightCells puts each cell there may be at each sector.
func TestSlotsOfAnyRightCells(t *testing.T) {
	p := planOf(9, 3, 2)
	for at := range 5 {
		for _, c := range edgeCells() {
			s := newSlot(p, 12)
			s.Cells[at] = c
			wantRightSlot(t, p, s)
		}
	}
}

// TestTheCellsAreNotSealed has the Cells of other times, of other values and of other sectors: a Slot asks only whether each one is right.
func TestTheCellsAreNotSealed(t *testing.T) {
	eachSlot(39, func(draw *rand.Rand, p impl.Plan, s impl.Slot) {
		slices.Reverse(s.Cells)
		wantRightSlot(t, p, s)
		s.Cells = drawnCells(draw, p)
		wantRightSlot(t, p, s)
		s.Cells = make([]impl.Cell, len(s.Cells))
		wantRightSlot(t, p, s)
	})
}

// TestSlotsOfTrustsThatFailed is no matter of the Slot: what has failed is kept as such.
func TestSlotsOfTrustsThatFailed(t *testing.T) {
	eachSlot(40, func(_ *rand.Rand, p impl.Plan, s impl.Slot) {
		for region := range s.Seal.Trusts {
			s.Seal.Trusts[region].Failed = true
			s.Seal = impl.SealOf(p, s.Seal.Count, s.Seal.Trusts)
			wantRightSlot(t, p, s)
		}
	})
}

func TestSlotsWithAWrongCell(t *testing.T) {
	for _, known := range knownPlans {
		p := planOf(9, known.counts...)
		for at := range known.regions {
			for _, c := range wrongCells() {
				s := newSlot(p, 12)
				s.Cells[at] = c
				wantSlotOk(t, p, s, false)
				wantChosen(t, p, []impl.Slot{s}, 12, -1)
			}
		}
	}
}

// TestSlotsWithFewerOrMoreCells has lists of any length but that one, also those of one region alone.
func TestSlotsWithFewerOrMoreCells(t *testing.T) {
	eachSlot(41, func(_ *rand.Rand, p impl.Plan, s impl.Slot) {
		right := s.Cells
		for many := range 50 {
			s.Cells = slices.Repeat(right, 50)[:many]
			if many == len(right) {
				wantRightSlot(t, p, s)
			} else {
				wantWrongSlot(t, p, s)
			}
		}
		s.Cells = nil
		wantWrongSlot(t, p, s)
		s.Cells = slices.Repeat(right, 1000)
		wantSlotOk(t, p, s, false)
	})
}

// TestSlotsWithAnotherNumberInTheSeal changes one number at a time, to those that it may be and to others.
func TestSlotsWithAnotherNumberInTheSeal(t *testing.T) {
	eachSlot(42, func(_ *rand.Rand, p impl.Plan, right impl.Slot) {
		for region, x := range right.Seal.Trusts {
			for _, field := range allTrustFields() {
				old := *field.of(&x)
				for _, number := range slices.Concat(field.right, field.wrong, []int64{old - 1, old + 1}) {
					s := cloned(right)
					*field.of(&s.Seal.Trusts[region]) = number
					wantSlotOk(t, p, s, number == old)
				}
			}
		}
		for _, mac := range []int64{right.Seal.Mac - 1, right.Seal.Mac + 1, -right.Seal.Mac, 0, -1, math.MinInt64, math.MaxInt64} {
			s := cloned(right)
			s.Seal.Mac = mac
			wantWrongSlot(t, p, s)
		}
		for _, count := range slices.Concat(rightCounts, noCounts, []int64{right.Seal.Count - 1, right.Seal.Count + 1}) {
			s := cloned(right)
			s.Seal.Count = count
			wantSlotOk(t, p, s, count == right.Seal.Count)
			wantChosen(t, p, []impl.Slot{s}, count, chosenByWords(p, []impl.Slot{s}, count))
		}
	})
}

// TestBrokenSlots has a right Slot with one thing changed at a time, and the right one again.
func TestBrokenSlots(t *testing.T) {
	eachSlot(43, func(_ *rand.Rand, p impl.Plan, right impl.Slot) {
		for _, s := range brokenSlots(right) {
			wantWrongSlot(t, p, s)
		}
		wantRightSlot(t, p, right)
	})
}

// TestTheZeroSlotIsNotRight has it with plans of all kinds, by the Count that it has and by others.
func TestTheZeroSlotIsNotRight(t *testing.T) {
	plans := wrongPlans()
	for _, known := range knownPlans {
		plans = append(plans, planOf(9, known.counts...))
	}
	for _, p := range plans {
		wantWrongSlot(t, p, impl.Slot{})
		wantWrongSlot(t, p, impl.Slot{Seal: impl.Seal{Trusts: []impl.Trust{}}, Cells: []impl.Cell{}})
		for _, count := range slices.Concat(rightCounts, noCounts) {
			wantChosen(t, p, make([]impl.Slot, 3), count, -1)
			wantWrongSlot(t, p, impl.Slot{Seal: impl.Seal{Count: count, Mac: impl.MacOf(p, count, nil)}})
		}
	}
}

func TestSlotsOfNoPlan(t *testing.T) {
	for _, p := range wrongPlans() {
		for many := range 7 {
			for _, sectors := range []int{0, 1, 5, 24, 25} {
				for _, mac := range []int64{0, -1, macByWords(9, 12, make([]impl.Trust, many))} {
					seal := impl.Seal{Count: 12, Trusts: make([]impl.Trust, many), Mac: mac}
					s := impl.Slot{Seal: seal, Cells: make([]impl.Cell, sectors)}
					wantSlotOk(t, p, s, false)
					wantChosen(t, p, []impl.Slot{s, s}, 12, -1)
				}
			}
		}
		for _, known := range knownSlots {
			wantWrongSlot(t, p, known.slot)
		}
	}
}

// TestSlotsOfAnotherPlan has one with another key, with more or fewer sectors, and with more or fewer regions.
func TestSlotsOfAnotherPlan(t *testing.T) {
	eachSlot(44, func(_ *rand.Rand, p impl.Plan, s impl.Slot) {
		for _, key := range slices.Concat([]int64{p.Key - 1, p.Key + 1, -p.Key}, rightKeys, wrongKeys) {
			if key != p.Key {
				wantWrongSlot(t, planOf(key, p.Counts...), s)
			}
		}
		for _, other := range knownPlans {
			if len(other.regions) != len(s.Cells) || len(other.counts) != len(p.Counts) {
				wantWrongSlot(t, planOf(p.Key, other.counts...), s)
			}
		}
		wantRightSlot(t, p, s)
	})
}

// TestSlotsTellNothingOfTheCounts has plans with as many regions and as many sectors: a Slot is right with each of them with which its Trusts are.
func TestSlotsTellNothingOfTheCounts(t *testing.T) {
	p := planOf(9, 3, 2)
	s := impl.Slot{Seal: impl.SealOf(p, 12, []impl.Trust{{Cursor: 1}, {}}), Cells: newCells(p)}
	for _, counts := range [][]int64{{3, 2}, {2, 3}, {4, 1}} {
		wantRightSlot(t, planOf(9, counts...), s)
	}
	for _, counts := range [][]int64{{1, 4}, {2, 2}, {3, 3}, {5}, {2, 2, 1}, {5, 0}} {
		wantWrongSlot(t, planOf(9, counts...), s)
	}
}

// TestTwoSlotsByTheirCounts is promise 11 of two, whichever stands first.
func TestTwoSlotsByTheirCounts(t *testing.T) {
	eachSlot(45, func(draw *rand.Rand, p impl.Plan, one impl.Slot) {
		count := one.Seal.Count
		for _, other := range []int64{count - 1, count + 1, 0, impl.MaxCount} {
			two := drawnSlot(draw, p, other)
			for _, by := range slices.Concat(rightCounts, noCounts, []int64{count, other, count + 2, -count}) {
				first, second := int64(-1), int64(-1)
				if by == count {
					first, second = 0, 1
				} else if by == other {
					first, second = 1, 0
				}
				wantChosen(t, p, []impl.Slot{one, two}, by, first)
				wantChosen(t, p, []impl.Slot{two, one}, by, second)
			}
		}
	})
}

// TestTheCountAloneChooses has any Trusts and any Cells at both places, so that neither which one is older nor which one has failed turns the choice.
func TestTheCountAloneChooses(t *testing.T) {
	draw := rand.New(rand.NewSource(46))
	for range 2000 {
		known := knownPlans[draw.Intn(len(knownPlans))]
		p := planOf(draw.Int63n(impl.MaxKey)+1, known.counts...)
		for place := range int64(2) {
			slots := []impl.Slot{drawnSlot(draw, p, 12), drawnSlot(draw, p, 12)}
			slots[1-place] = drawnSlot(draw, p, 13)
			wantChosen(t, p, slots, 12, place)
			wantChosen(t, p, slots, 13, 1-place)
			wantChosen(t, p, slots, 11, -1)
			wantChosen(t, p, slots, 14, -1)
		}
	}
}

func TestOfSlotsWithOneCountTheFirstIsChosen(t *testing.T) {
	eachSlot(47, func(draw *rand.Rand, p impl.Plan, one impl.Slot) {
		count := one.Seal.Count
		two, other := drawnSlot(draw, p, count), drawnSlot(draw, p, count+1)
		for _, slots := range [][]impl.Slot{{one, two}, {two, one}, {one, one}, {one, two, one}, {one, other, two}, {two, other, other, one}} {
			wantChosen(t, p, slots, count, 0)
		}
		for _, slots := range [][]impl.Slot{{other, one, two}, {other, two, one, one}, {{}, one, two}} {
			wantChosen(t, p, slots, count, 1)
		}
		wantChosen(t, p, []impl.Slot{other, other, two, one}, count, 2)
	})
}

// TestSlotsThatAreNotRightArePassedOver has one or more with the Count ahead of a right one, and behind it.
func TestSlotsThatAreNotRightArePassedOver(t *testing.T) {
	eachSlot(48, func(draw *rand.Rand, p impl.Plan, right impl.Slot) {
		count := right.Seal.Count
		broken := brokenSlots(right)
		for _, s := range broken {
			wantChosen(t, p, []impl.Slot{s, right}, count, 1)
			wantChosen(t, p, []impl.Slot{right, s}, count, 0)
			wantChosen(t, p, []impl.Slot{s, s, right}, count, 2)
			wantChosen(t, p, []impl.Slot{s, drawnSlot(draw, p, count+1), s, right, right}, count, 3)
			wantChosen(t, p, []impl.Slot{s, drawnSlot(draw, p, count+1)}, count, -1)
			wantChosen(t, p, []impl.Slot{s, drawnSlot(draw, p, count+1)}, count+1, 1)
		}
		wantChosen(t, p, broken, count, -1)
		wantChosen(t, p, append(slices.Clone(broken), right), count, int64(len(broken)))
	})
}

func TestNoSlots(t *testing.T) {
	plans := wrongPlans()
	for _, known := range knownPlans {
		plans = append(plans, planOf(9, known.counts...))
	}
	for _, p := range plans {
		for _, count := range slices.Concat(rightCounts, noCounts) {
			wantChosen(t, p, nil, count, -1)
			wantChosen(t, p, []impl.Slot{}, count, -1)
		}
	}
}

// TestEachOfManySlots has lists from one Slot on, with each Count at one place, and the right one at each place among wrong ones.
func TestEachOfManySlots(t *testing.T) {
	draw := rand.New(rand.NewSource(49))
	p := planOf(77, 3, 2)
	for many := 1; many <= 12; many++ {
		var slots []impl.Slot
		for count := range many {
			slots = append(slots, drawnSlot(draw, p, int64(count)))
		}
		draw.Shuffle(many, func(a, b int) { slots[a], slots[b] = slots[b], slots[a] })
		for place, s := range slots {
			wantChosen(t, p, slots, s.Seal.Count, int64(place))
			alone := make([]impl.Slot, many)
			alone[place] = s
			wantChosen(t, p, alone, s.Seal.Count, int64(place))
		}
		wantChosen(t, p, slots, int64(many), -1)
		wantChosen(t, p, slots, -1, -1)
	}
	long := slices.Repeat([]impl.Slot{newSlot(p, 4)}, 10000)
	wantChosen(t, p, append(long, newSlot(p, 5)), 5, 10000)
	wantChosen(t, p, append(long, newSlot(p, 4), newSlot(p, 5)), 5, 10001)
}

// TestNoCountChooses has Slots with counts past the limits, sealed by their mixing where there is one.
func TestNoCountChooses(t *testing.T) {
	eachSlot(50, func(_ *rand.Rand, p impl.Plan, s impl.Slot) {
		for _, count := range noCounts {
			wantChosen(t, p, []impl.Slot{s, newSlot(p, 0), newSlot(p, impl.MaxCount)}, count, -1)
			unsealed := cloned(s)
			unsealed.Seal.Count, unsealed.Seal.Mac = count, macByWords(p.Key, count, s.Seal.Trusts)
			wantWrongSlot(t, p, unsealed)
		}
	})
}

// TestSlotsOfAnyNumbers holds SlotOk and Chosen against the chapter's words, of lists in which a few counts and a few changes are drawn.
func TestSlotsOfAnyNumbers(t *testing.T) {
	draw := rand.New(rand.NewSource(51))
	oks, places := map[bool]int{}, map[int64]int{}
	for range 10000 {
		known := knownPlans[draw.Intn(len(knownPlans))]
		p := planOf(draw.Int63n(impl.MaxKey)+1, known.counts...)
		slots := make([]impl.Slot, draw.Intn(5))
		for i := range slots {
			slots[i] = anySlot(draw, p)
			ok := slotByWords(p, slots[i])
			oks[ok]++
			wantSlotOk(t, p, slots[i], ok)
		}
		for count := int64(-1); count <= 4; count++ {
			want := chosenByWords(p, slots, count)
			places[want]++
			wantChosen(t, p, slots, count, want)
		}
		if t.Failed() {
			t.FailNow()
		}
	}
	if oks[true] < 5000 || oks[false] < 5000 || places[-1] < 5000 || places[0] < 2000 || places[1] < 1000 || places[2] < 500 || places[3] < 200 {
		t.Fatal(oks, places)
	}
}

// anySlot draws a right one with one of a few counts, and then perhaps changes something.
func anySlot(draw *rand.Rand, p impl.Plan) impl.Slot {
	s := drawnSlot(draw, p, draw.Int63n(4))
	at := draw.Intn(len(s.Cells))
	switch draw.Intn(8) {
	case 0:
		s.Cells[at].Time = anyNumber(draw, impl.MaxTime)
	case 1:
		s.Cells[at].Value = anyNumber(draw, impl.ValueMod-1)
	case 2:
		s.Cells = append(s.Cells[:at], drawnCells(draw, p)...)
	case 3:
		s.Seal.Mac = anyNumber(draw, impl.MixMod-1)
	case 4:
		count, trusts := anyTrusts(draw, p)
		s.Seal = impl.Seal{Count: count, Trusts: trusts, Mac: macByWords(p.Key, count, trusts)}
	case 5:
		broken := brokenSlots(s)
		return broken[draw.Intn(len(broken))]
	}
	return s
}

// TestSlotsLeaveWhatTheyAreGiven gives all lists with spare room behind them, in which there is more that would be right.
func TestSlotsLeaveWhatTheyAreGiven(t *testing.T) {
	p := planOf(9, 3, 2, 4)
	roomy := drawnSlot(rand.New(rand.NewSource(52)), p, 12)
	for regions := range 4 {
		for cells := range 10 {
			given, counts := cloned(roomy), slices.Clone(p.Counts)
			q := planOf(9, counts[:regions]...)
			trusts := given.Seal.Trusts[:regions]
			s := impl.Slot{Seal: impl.Seal{Count: 12, Trusts: trusts, Mac: impl.MacOf(q, 12, trusts)}, Cells: given.Cells[:cells]}
			slots := []impl.Slot{{}, s, newSlot(p, 13)}
			kept := clonedAll(slots)
			place := int64(-1)
			if regions > 0 && int64(cells) == together(counts[:regions]) {
				place = 1
			}
			wantSlotOk(t, q, s, place == 1)
			wantChosen(t, q, slots[:1], 12, -1)
			wantChosen(t, q, slots[:2], 12, place)
			wantChosen(t, p, slots[:2], 13, -1)
			wantChosen(t, p, slots, 13, 2)
			if !sameSlot(given, roomy) || !slices.EqualFunc(slots, kept, sameSlot) || !slices.Equal(counts, p.Counts) {
				t.Fatalf("%+v became %+v", kept, slots)
			}
		}
	}
}

// TestSlotsKeepNothing chooses as before after Slots were changed, and after others.
func TestSlotsKeepNothing(t *testing.T) {
	p, other := planOf(9, 3, 2), planOf(9, 3, 2, 4)
	slots := []impl.Slot{newSlot(p, 12), newSlot(p, 13)}
	for range 3 {
		wantChosen(t, p, slots, 12, 0)
		wantChosen(t, p, slots, 13, 1)
		wantChosen(t, other, slots, 13, -1)
		wantRightSlot(t, other, newSlot(other, 12))
		slots[1].Cells[4].Time = -1
		wantWrongSlot(t, p, slots[1])
		slots[1].Cells[4].Time = 2
		slots[0].Seal.Mac++
		wantWrongSlot(t, p, slots[0])
		slots[0].Seal.Mac--
		wantChosen(t, impl.Plan{}, slots, 12, -1)
	}
	if !sameSlot(slots[0], newSlot(p, 12)) || !sameSlot(slots[1], newSlot(p, 13)) {
		t.Fatal(slots)
	}
}
