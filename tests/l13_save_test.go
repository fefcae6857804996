package tests

import (
	"math"
	"math/rand"
	"slices"
	"testing"

	"loop.example/g00775/impl"
)

// keeping is one call of the layer: what is done, and the stage or the slot of it, if any.
type keeping struct {
	kind   string
	number int64
}

var (
	wrongStages = []int64{math.MinInt64, -3, -2, -1, 4, 5, 6, 4294967296, 4294967299, math.MaxInt64}
	wrongSlots  = []int64{math.MinInt64, -2, -1, 2, 3, 4, 4294967296, 4294967297, math.MaxInt64}
	fall        = keeping{"fall", 0}
)

// knownSavings are done one after the other, from the Formatted of the key 77 and the Counts 3, 2 on: the jobs, and a saving of what these leave. Another program found the Trusts, the Cells and the Mac.
var knownSavings = []struct {
	jobs   []job
	trusts []impl.Trust
	cells  []impl.Cell
	slot   int
	count  int64
	mac    int64
}{
	{
		[]job{{"write", 4, 500}, {"step", 0, 0}, {"write", 0, 10006}},
		[]impl.Trust{{Clock: 5, Cursor: 1, Read: 2410428542513963183, Written: 2619687288724411508, NextRead: 2410417321911897176, NextWritten: 209152046337859311}, {Clock: 3, Read: 2410570995841826036, Written: 2619987912812964233}},
		[]impl.Cell{{Time: 5, Value: 4158}, {Time: 2, Value: 1296}, {Time: 3, Value: 4285}, {Time: 1, Value: 2885}, {Time: 3, Value: 7837}},
		0, 2, 2935969490711999438,
	},
	{
		[]job{{"write", 1, 1}, {"step", 1, 0}},
		[]impl.Trust{{Clock: 6, Cursor: 1, Read: 209193129847549902, Written: 418465570561227924, NextRead: 2410417321911897176, NextWritten: 209152046337859311}, {Clock: 4, Cursor: 1, Read: 209412420140377185, Written: 2619987912812964233, NextWritten: 2410537711992748589}},
		[]impl.Cell{{Time: 5, Value: 4158}, {Time: 6, Value: 7149}, {Time: 3, Value: 4285}, {Time: 4, Value: 7274}, {Time: 3, Value: 7837}},
		1, 3, 2767314994551446239,
	},
	{
		[]job{{"write", 4, 8}, {"step", 1, 0}},
		[]impl.Trust{{Clock: 6, Cursor: 1, Read: 209193129847549902, Written: 418465570561227924, NextRead: 2410417321911897176, NextWritten: 209152046337859311}, {Clock: 6, Epoch: 1, Written: 209414909073926418}},
		[]impl.Cell{{Time: 5, Value: 4158}, {Time: 6, Value: 7149}, {Time: 3, Value: 4285}, {Time: 4, Value: 7274}, {Time: 6, Value: 1727}},
		0, 4, 38696889504621174,
	},
}

func (k keeping) answered(v impl.Volume) (impl.Volume, int64) {
	switch k.kind {
	case "save":
		return impl.SavedTo(v, k.number)
	case "fall":
		return impl.Fallen(v)
	}
	return impl.Spoilt(v, k.number)
}

// answeredByWords is what the chapter tells of any call about any volume, with the limits and the codes written out.
func (k keeping) answeredByWords(v impl.Volume) (impl.Volume, int64) {
	if !volumeByWords(v) {
		return impl.Volume{}, 1
	}
	left := clonedVolume(v)
	switch {
	case k.kind == "fall":
		return fallenByWords(left)
	case k.kind == "save" && (k.number < 0 || k.number > 3), k.kind == "spoil" && k.number != 0 && k.number != 1:
		return left, 1
	case k.kind == "spoil":
		left.Slots[k.number].Seal.Mac++
		return left, 0
	case v.Count == 10000:
		return left, 3
	}
	other := &left.Slots[1-v.Count%2]
	if k.number >= 1 {
		*other = impl.Slot{Seal: impl.Seal{Count: v.Count + 1, Trusts: slices.Clone(v.Trusts)}, Cells: slices.Clone(v.Cells)}
	}
	if k.number >= 2 {
		other.Seal.Mac = macByWords(v.Plan.Key, v.Count+1, v.Trusts)
	}
	if k.number == 3 {
		left.Count++
	}
	return left, 0
}

func fallenByWords(left impl.Volume) (impl.Volume, int64) {
	for _, s := range left.Slots {
		if s.Seal.Count == left.Count && slotByWords(left.Plan, s) {
			left.Trusts, left.Cells = slices.Clone(s.Seal.Trusts), slices.Clone(s.Cells)
			return left, 0
		}
	}
	for region := range left.Trusts {
		left.Trusts[region].Failed = true
	}
	return left, 6
}

// wantKeeping asks for an answer, and that the volume which came in is as it was; it answers what there is from then on.
func wantKeeping(t *testing.T, v impl.Volume, k keeping, want impl.Volume, code int64) impl.Volume {
	t.Helper()
	kept := clonedVolume(v)
	got, gotCode := k.answered(v)
	if !sameVolume(got, want) || gotCode != code {
		t.Errorf("%v of %+v is %+v with the code %d, want %+v with %d", k, v, got, gotCode, want, code)
	}
	if !sameVolume(v, kept) {
		t.Errorf("%v made %+v of %+v, which it was given", k, v, kept)
	}
	return got
}

// keep does what the chapter tells, asks that the volume stays right, and answers what there is from then on.
func keep(t *testing.T, v impl.Volume, k keeping, code int64) impl.Volume {
	t.Helper()
	want, wantCode := k.answeredByWords(v)
	if wantCode != code {
		t.Errorf("the code of %v of %+v is %d, want %d", k, v, wantCode, code)
	}
	got := wantKeeping(t, v, k, want, wantCode)
	wantVolumeOk(t, got, true)
	return got
}

// allKeepings are those of all stages and slots there are.
func allKeepings() []keeping {
	return []keeping{{"save", 0}, {"save", 1}, {"save", 2}, {"save", 3}, fall, {"spoil", 0}, {"spoil", 1}}
}

// noKeepings are those of stages and slots that there are not.
func noKeepings() []keeping {
	var list []keeping
	for _, stage := range wrongStages {
		list = append(list, keeping{"save", stage})
	}
	for _, slot := range wrongSlots {
		list = append(list, keeping{"spoil", slot})
	}
	return list
}

// wroteSome is the volume with drawn values in some of its sectors, and some steps done.
func wroteSome(t *testing.T, draw *rand.Rand, v impl.Volume, values []int64) impl.Volume {
	t.Helper()
	for range draw.Intn(4) + 1 {
		j := job{jobKinds[draw.Intn(3)], draw.Int63n(int64(len(values))), draw.Int63n(impl.ValueMod)}
		v = wantHonestJob(t, v, j, values)
	}
	return v
}

// written is the Formatted of a plan, with a value of its own written into each sector and one step done.
func written(t *testing.T, p impl.Plan, more int64) impl.Volume {
	t.Helper()
	v := impl.Formatted(p)
	for at := range impl.SectorsOf(p) {
		v = done(t, v, job{"write", at, more + at}, impl.CdOk).volume
	}
	if p.Counts[0] > 1 {
		v = done(t, v, job{"step", 0, 0}, impl.CdOk).volume
	}
	return v
}

// valuesOf are those that are written there.
func valuesOf(p impl.Plan, more int64) []int64 {
	var list []int64
	for at := range impl.SectorsOf(p) {
		list = append(list, more+at)
	}
	return list
}

// eachWritten calls with a written volume of each of the known plans.
func eachWritten(t *testing.T, call func(v impl.Volume)) {
	t.Helper()
	for _, known := range knownPlans {
		for _, key := range []int64{1, 77, impl.MaxKey} {
			call(written(t, planOf(key, known.counts...), 100))
		}
	}
}

// wantCameBack asks for a volume that has the Trusts and the Cells of the other one, and nothing else of it.
func wantCameBack(t *testing.T, v, to impl.Volume) impl.Volume {
	t.Helper()
	want := clonedVolume(v)
	want.Trusts, want.Cells = slices.Clone(to.Trusts), slices.Clone(to.Cells)
	return wantKeeping(t, v, fall, want, impl.CdOk)
}

// wantLost asks for a volume of which nothing has changed but that all Trusts have Failed.
func wantLost(t *testing.T, v impl.Volume) impl.Volume {
	t.Helper()
	want := clonedVolume(v)
	for region := range want.Trusts {
		want.Trusts[region].Failed = true
	}
	return wantKeeping(t, v, fall, want, impl.CdLost)
}

func wantLeft(t *testing.T, v impl.Volume, k keeping, code int64) {
	t.Helper()
	wantKeeping(t, v, k, v, code)
}

func TestSavingsByHand(t *testing.T) {
	v := impl.Formatted(planOf(77, 3, 2))
	for _, known := range knownSavings {
		for _, j := range known.jobs {
			v = j.answered(v).volume
		}
		want := clonedVolume(v)
		want.Trusts, want.Cells = known.trusts, known.cells
		wantKeeping(t, v, keeping{"save", 0}, want, 0)
		s := &want.Slots[known.slot]
		*s = impl.Slot{Seal: impl.Seal{Count: known.count, Trusts: known.trusts}, Cells: known.cells}
		wantKeeping(t, v, keeping{"save", 1}, want, 0)
		s.Seal.Mac = known.mac
		wantKeeping(t, v, keeping{"save", 2}, want, 0)
		want.Count = known.count
		v = wantKeeping(t, v, keeping{"save", 3}, want, 0)
	}
}

// TestFallsByHand falls from what comes behind each of the known savings, and lastly after Spoilt.
func TestFallsByHand(t *testing.T) {
	v := impl.Formatted(planOf(77, 3, 2))
	for _, known := range knownSavings {
		for _, j := range known.jobs {
			v = j.answered(v).volume
		}
		v, _ = impl.SavedTo(v, 3)
		later := job{"write", 2, 9}.answered(v).volume
		want := clonedVolume(later)
		want.Trusts, want.Cells = known.trusts, known.cells
		wantKeeping(t, later, fall, want, 0)
	}
	want := clonedVolume(v)
	want.Slots[0].Seal.Mac = 38696889504621175
	v = wantKeeping(t, v, keeping{"spoil", 0}, want, 0)
	want.Trusts[0].Failed, want.Trusts[1].Failed = true, true
	v = wantKeeping(t, v, fall, want, 6)
	want.Slots[1].Seal.Mac = 2767314994551446240
	wantKeeping(t, v, keeping{"spoil", 1}, want, 0)
}

// TestStage0ChangesNothing is a saving that has not got anywhere.
func TestStage0ChangesNothing(t *testing.T) {
	eachWritten(t, func(v impl.Volume) {
		wantLeft(t, v, keeping{"save", 0}, impl.CdOk)
	})
	eachVolume(67, func(_ *rand.Rand, v impl.Volume) {
		v.Count = min(v.Count, impl.MaxCount-1)
		wantLeft(t, v, keeping{"save", 0}, impl.CdOk)
	})
}

// TestWhatEachStageLeaves has one Slot with all that there is, and all else as it was.
func TestWhatEachStageLeaves(t *testing.T) {
	eachWritten(t, func(v impl.Volume) {
		for count := range int64(4) {
			v.Count = count
			other := (count + 1) % 2
			for stage := int64(1); stage <= 3; stage++ {
				x := keep(t, v, keeping{"save", stage}, impl.CdOk)
				s := x.Slots[other]
				if s.Seal.Count != count+1 || !slices.Equal(s.Seal.Trusts, v.Trusts) || !slices.Equal(s.Cells, v.Cells) {
					t.Errorf("saved to %d, the Slot %d is %+v", stage, other, s)
				}
				if (s.Seal.Mac == 0) != (stage == 1) || impl.SlotOk(v.Plan, s) != (stage > 1) {
					t.Errorf("saved to %d, the Mac is %d", stage, s.Seal.Mac)
				}
				if (x.Count == count+1) != (stage == 3) || (x.Count == count) != (stage != 3) {
					t.Errorf("saved to %d at the Count %d, it is %d", stage, count, x.Count)
				}
				if !sameSlot(x.Slots[1-other], v.Slots[1-other]) || !slices.Equal(x.Trusts, v.Trusts) || !slices.Equal(x.Cells, v.Cells) {
					t.Errorf("saved to %d, %+v became %+v", stage, v, x)
				}
			}
		}
	})
}

// TestStagesOfDrawnVolumes has whatever stands in the Slot ahead of a saving: nothing of it is left.
func TestStagesOfDrawnVolumes(t *testing.T) {
	eachVolume(68, func(draw *rand.Rand, v impl.Volume) {
		for range 20 {
			v.Count = draw.Int63n(impl.MaxCount)
			v.Slots = []impl.Slot{keptSlot(draw, v.Plan), keptSlot(draw, v.Plan)}
			for stage := range int64(4) {
				keep(t, v, keeping{"save", stage}, impl.CdOk)
			}
		}
	})
}

// TestWhoFallsComesBack is promise 13 of each stage: the saving that got through, or the one before.
func TestWhoFallsComesBack(t *testing.T) {
	eachWritten(t, func(before impl.Volume) {
		values := valuesOf(before.Plan, 100)
		saved := keep(t, before, keeping{"save", 3}, impl.CdOk)
		later := saved
		for at := range int64(len(values)) {
			later = done(t, later, job{"write", at, 500 + at}, impl.CdOk).volume
		}
		for stage := range int64(4) {
			x := keep(t, later, keeping{"save", stage}, impl.CdOk)
			back := before
			if stage == 3 {
				back, values = later, valuesOf(before.Plan, 500)
			}
			y := wantCameBack(t, x, back)
			wantVolumeOk(t, y, true)
			wantValues(t, y, values)
			for region := range y.Trusts {
				y = done(t, y, job{"close", int64(region), 0}, impl.CdPassed).volume
			}
			wantValues(t, y, values)
		}
		wantCameBack(t, later, before)
	})
}

// TestWhoFallsWithoutASaving comes back to what was formatted.
func TestWhoFallsWithoutASaving(t *testing.T) {
	eachWritten(t, func(v impl.Volume) {
		start := impl.Formatted(v.Plan)
		for stage := range int64(3) {
			x := keep(t, v, keeping{"save", stage}, impl.CdOk)
			wantValues(t, wantCameBack(t, x, start), make([]int64, len(v.Cells)))
		}
		wantCameBack(t, v, start)
		wantCameBack(t, start, start)
	})
}

// TestSavingsGoByTurns has savings one after another: each of the Slots is written in its turn, and the other one keeps the saving before.
func TestSavingsGoByTurns(t *testing.T) {
	draw := rand.New(rand.NewSource(69))
	for _, known := range knownPlans {
		v := impl.Formatted(planOf(draw.Int63n(impl.MaxKey)+1, known.counts...))
		values := make([]int64, len(known.regions))
		for saving := range int64(9) {
			v = wroteSome(t, draw, v, values)
			x := keep(t, v, keeping{"save", 3}, impl.CdOk)
			slot := saving % 2
			if x.Count != saving+2 || x.Slots[slot].Seal.Count != saving+2 || x.Slots[1-slot].Seal.Count != saving+1 {
				t.Errorf("the saving %d leaves the Count %d and the Slots %+v", saving, x.Count, x.Slots)
			}
			if !sameSlot(x.Slots[1-slot], v.Slots[1-slot]) || !slices.Equal(x.Slots[slot].Cells, v.Cells) {
				t.Errorf("the saving %d made %+v of %+v", saving, x.Slots, v.Slots)
			}
			wantChosen(t, x.Plan, x.Slots, x.Count, slot)
			wantChosen(t, x.Plan, x.Slots, x.Count-1, 1-slot)
			v = x
		}
	}
}

// TestSavingsThatGotHalfWay are done anew: until the Count is one more they all write the one Slot, and the saving before stays.
func TestSavingsThatGotHalfWay(t *testing.T) {
	draw := rand.New(rand.NewSource(70))
	for _, known := range knownPlans {
		values := make([]int64, len(known.regions))
		v := wroteSome(t, draw, impl.Formatted(planOf(9, known.counts...)), values)
		v = keep(t, v, keeping{"save", 3}, impl.CdOk)
		saved := v
		for _, stage := range []int64{1, 2, 0, 2, 1, 1, 0} {
			v = wroteSome(t, draw, v, values)
			v = keep(t, v, keeping{"save", stage}, impl.CdOk)
			if v.Count != 2 || !sameSlot(v.Slots[0], saved.Slots[0]) {
				t.Errorf("saved to %d, %+v became %+v", stage, saved, v)
			}
			wantCameBack(t, v, saved)
		}
		v = wroteSome(t, draw, v, values)
		x := keep(t, v, keeping{"save", 3}, impl.CdOk)
		wantCameBack(t, x, v)
	}
}

// TestLongRowsOfSavingsAndFalls is promise 13 with promise 12: whoever falls reads what was written last ahead of the last saving, and all regions pass.
func TestLongRowsOfSavingsAndFalls(t *testing.T) {
	draw := rand.New(rand.NewSource(71))
	for range 3 {
		for _, known := range knownPlans {
			v := impl.Formatted(planOf(draw.Int63n(impl.MaxKey)+1, known.counts...))
			values := make([]int64, len(known.regions))
			saved, savedValues := v, slices.Clone(values)
			for range 40 {
				v = wroteSome(t, draw, v, values)
				stage := draw.Int63n(4)
				if stage == 3 {
					saved, savedValues = v, slices.Clone(values)
				}
				v = keep(t, v, keeping{"save", stage}, impl.CdOk)
				if draw.Intn(2) == 0 {
					v, values = wantCameBack(t, v, saved), slices.Clone(savedValues)
				}
			}
			wantValues(t, v, values)
			for region := range known.counts {
				v = done(t, v, job{"close", int64(region), 0}, impl.CdPassed).volume
			}
			wantValues(t, v, values)
			if t.Failed() {
				t.FailNow()
			}
		}
	}
}

// TestFallsTwice has nothing left to change after the first one.
func TestFallsTwice(t *testing.T) {
	eachWritten(t, func(v impl.Volume) {
		x := keep(t, v, fall, impl.CdOk)
		wantLeft(t, x, fall, impl.CdOk)
		v.Count = 7
		x = keep(t, v, fall, impl.CdLost)
		wantLeft(t, x, fall, impl.CdLost)
	})
}

// TestCountsOfSavings has a Count at each limit, and each of them with a right Slot of that Count.
func TestCountsOfSavings(t *testing.T) {
	eachVolume(72, func(draw *rand.Rand, v impl.Volume) {
		for _, count := range rightCounts {
			v.Count = count
			v.Slots[count%2] = drawnSlot(draw, v.Plan, count)
			v.Slots[1-count%2] = keptSlot(draw, v.Plan)
			v.Slots[1-count%2].Seal.Count = count + 5
			if count < impl.MaxCount {
				for stage := range int64(3) {
					keep(t, v, keeping{"save", stage}, impl.CdOk)
				}
				x := keep(t, v, keeping{"save", 3}, impl.CdOk)
				if x.Count != count+1 {
					t.Errorf("saved at the Count %d, it is %d", count, x.Count)
				}
				wantCameBack(t, x, v)
			}
			wantCameBack(t, v, impl.Volume{Trusts: v.Slots[count%2].Seal.Trusts, Cells: v.Slots[count%2].Cells})
		}
	})
}

// TestNoSavingBehindTheLastCount is spent at each stage, and the Volume is as it is; whoever falls comes back all the same.
func TestNoSavingBehindTheLastCount(t *testing.T) {
	eachWritten(t, func(v impl.Volume) {
		v.Count = impl.MaxCount - 1
		x := keep(t, v, keeping{"save", 3}, impl.CdOk)
		if x.Count != impl.MaxCount || x.Slots[0].Seal.Count != impl.MaxCount || !impl.SlotOk(x.Plan, x.Slots[0]) {
			t.Errorf("the last saving leaves %+v", x)
		}
		x = done(t, x, job{"write", 0, 9000}, impl.CdOk).volume
		for stage := range int64(4) {
			wantLeft(t, x, keeping{"save", stage}, impl.CdSpent)
		}
		for _, stage := range wrongStages {
			wantLeft(t, x, keeping{"save", stage}, impl.CdBad)
		}
		wantCameBack(t, x, v)
		wantLost(t, keep(t, x, keeping{"spoil", 0}, impl.CdOk))
	})
}

// TestNoSuchStageOrSlot leaves the Volume as it is.
func TestNoSuchStageOrSlot(t *testing.T) {
	check := func(v impl.Volume) {
		for _, k := range noKeepings() {
			wantLeft(t, v, k, impl.CdBad)
		}
	}
	eachWritten(t, check)
	eachVolume(73, func(_ *rand.Rand, v impl.Volume) {
		check(v)
		v.Count = impl.MaxCount
		check(v)
	})
}

func TestNothingIsKeptOfNoVolume(t *testing.T) {
	eachVolume(74, func(_ *rand.Rand, right impl.Volume) {
		for _, v := range brokenVolumes(right) {
			wantVolumeOk(t, v, false)
			for _, k := range slices.Concat(allKeepings(), noKeepings()) {
				wantKeeping(t, v, k, impl.Volume{}, impl.CdBad)
			}
		}
	})
}

// TestNoVolumeGoesAheadOfSpent has a Count at which there is no saving, and one behind it.
func TestNoVolumeGoesAheadOfSpent(t *testing.T) {
	v := impl.Formatted(planOf(9, 3, 2))
	for _, count := range []int64{impl.MaxCount, impl.MaxCount + 1, -1} {
		v.Count = count
		broken := clonedVolume(v)
		broken.Cells = broken.Cells[1:]
		for stage := range int64(4) {
			wantKeeping(t, broken, keeping{"save", stage}, impl.Volume{}, impl.CdBad)
		}
	}
}

// TestSpoiltIsOneMore changes no more than one Mac by 1, also of a Slot with nothing in it, and twice over.
func TestSpoiltIsOneMore(t *testing.T) {
	eachVolume(75, func(draw *rand.Rand, v impl.Volume) {
		for slot := range int64(2) {
			for _, s := range []impl.Slot{v.Slots[slot], {}, newSlot(v.Plan, 3), keptSlot(draw, v.Plan)} {
				v.Slots[slot] = s
				want := clonedVolume(v)
				x := v
				for range 3 {
					want.Slots[slot].Seal.Mac++
					x = wantKeeping(t, x, keeping{"spoil", slot}, want, impl.CdOk)
					wantVolumeOk(t, x, true)
				}
			}
		}
	})
}

// TestSpoiltAtAnyMac has those at the limits: past the greatest int64 the least one comes, as wherever an int64 overflows.
func TestSpoiltAtAnyMac(t *testing.T) {
	macs := map[int64]int64{0: 1, -1: 0, -2: -1, impl.MixMod - 1: impl.MixMod, impl.MixMod: impl.MixMod + 1, math.MaxInt64 - 1: math.MaxInt64, math.MaxInt64: math.MinInt64, math.MinInt64: math.MinInt64 + 1}
	eachWritten(t, func(v impl.Volume) {
		for mac, more := range macs {
			for slot := range int64(2) {
				x := clonedVolume(v)
				x.Slots[slot].Seal.Mac = mac
				want := clonedVolume(x)
				want.Slots[slot].Seal.Mac = more
				wantKeeping(t, x, keeping{"spoil", slot}, want, impl.CdOk)
				wantVolumeOk(t, want, true)
			}
		}
	})
}

// TestASpoiltSlotIsLost is chosen no more, neither after one Spoilt nor after more; that of the other Slot hinders nothing.
func TestASpoiltSlotIsLost(t *testing.T) {
	eachWritten(t, func(v impl.Volume) {
		for saving := range int64(4) {
			last, other := v.Count%2, 1-v.Count%2
			x := keep(t, v, keeping{"spoil", other}, impl.CdOk)
			wantCameBack(t, x, impl.Volume{Trusts: v.Slots[last].Seal.Trusts, Cells: v.Slots[last].Cells})
			for _, x := range []impl.Volume{v, x} {
				x = keep(t, x, keeping{"spoil", last}, impl.CdOk)
				wantLost(t, x)
				wantLost(t, keep(t, x, keeping{"spoil", last}, impl.CdOk))
			}
			v = keep(t, v, keeping{"save", 3}, impl.CdOk)
			v = done(t, v, job{"write", 0, 700 + saving}, impl.CdOk).volume
		}
	})
}

// TestSpoiltIntoARightOne has a Mac that is one less than the right one.
func TestSpoiltIntoARightOne(t *testing.T) {
	eachWritten(t, func(v impl.Volume) {
		x := clonedVolume(v)
		x.Slots[1].Seal.Mac--
		wantLost(t, x)
		wantCameBack(t, keep(t, x, keeping{"spoil", 1}, impl.CdOk), impl.Formatted(v.Plan))
	})
}

// TestTheFirstSlotWithTheCount is the one whoever falls comes back to, where both are right, and the second one where the first is not.
func TestTheFirstSlotWithTheCount(t *testing.T) {
	eachVolume(76, func(draw *rand.Rand, v impl.Volume) {
		for _, count := range []int64{0, 1, 2, 12, impl.MaxCount} {
			one, two := drawnSlot(draw, v.Plan, count), drawnSlot(draw, v.Plan, count)
			v.Count = count
			v.Slots = []impl.Slot{one, two}
			first := impl.Volume{Trusts: one.Seal.Trusts, Cells: one.Cells}
			second := impl.Volume{Trusts: two.Seal.Trusts, Cells: two.Cells}
			wantCameBack(t, v, first)
			wantCameBack(t, keep(t, v, keeping{"spoil", 0}, impl.CdOk), second)
			wantCameBack(t, keep(t, v, keeping{"spoil", 1}, impl.CdOk), first)
			for _, broken := range brokenSlots(one) {
				v.Slots[0] = broken
				if impl.VolumeOk(v) {
					wantCameBack(t, v, second)
				}
			}
			v.Slots[0] = impl.Slot{Seal: one.Seal}
			wantCameBack(t, v, second)
			v.Slots = []impl.Slot{two, {Seal: one.Seal}}
			wantCameBack(t, v, second)
			v.Slots[0] = impl.Slot{Seal: two.Seal}
			wantLost(t, v)
		}
	})
}

// TestTheCountAloneTellsWhereToComeBack has right Slots at the place of the other one, and Slots that are newer or older.
func TestTheCountAloneTellsWhereToComeBack(t *testing.T) {
	eachVolume(77, func(draw *rand.Rand, v impl.Volume) {
		for place := range 2 {
			for _, other := range []int64{0, 11, 13, 14, impl.MaxCount} {
				for _, count := range []int64{12, 13} {
					right := drawnSlot(draw, v.Plan, count)
					v.Count = count
					v.Slots[place], v.Slots[1-place] = right, drawnSlot(draw, v.Plan, other)
					if other == count {
						continue
					}
					wantCameBack(t, v, impl.Volume{Trusts: right.Seal.Trusts, Cells: right.Cells})
					v.Slots[place] = impl.Slot{}
					wantLost(t, v)
				}
			}
		}
	})
}

// TestNobodyComesBackToLongAgo puts an older Slot in the place of the last one: its Count is not the one that is asked for, and with that one it is not right.
func TestNobodyComesBackToLongAgo(t *testing.T) {
	eachWritten(t, func(v impl.Volume) {
		old := v
		for range 4 {
			v = done(t, v, job{"write", 0, v.Count}, impl.CdOk).volume
			v = keep(t, v, keeping{"save", 3}, impl.CdOk)
			replayed := clonedVolume(v)
			replayed.Slots[v.Count%2] = cloned(old.Slots[1])
			wantLost(t, replayed)
			replayed.Slots[v.Count%2].Seal.Count = v.Count
			wantLost(t, replayed)
			replayed.Slots[1-v.Count%2] = impl.Slot{}
			wantLost(t, replayed)
		}
	})
}

// TestTheCellsOfTheSlotAreTaken whatever they are, as the Seal tells of the Trusts alone.
func TestTheCellsOfTheSlotAreTaken(t *testing.T) {
	eachWritten(t, func(v impl.Volume) {
		v = keep(t, v, keeping{"save", 3}, impl.CdOk)
		for _, c := range edgeCells() {
			v.Slots[0].Cells[len(v.Cells)-1] = c
			wantCameBack(t, v, impl.Volume{Trusts: v.Trusts, Cells: v.Slots[0].Cells})
		}
	})
}

// TestWhatFailedIsKept has regions that Failed ahead of a saving or behind it.
func TestWhatFailedIsKept(t *testing.T) {
	eachWritten(t, func(v impl.Volume) {
		for region := range v.Trusts {
			failed := clonedVolume(v)
			failed.Trusts[region].Failed = true
			for stage := range int64(4) {
				x := keep(t, failed, keeping{"save", stage}, impl.CdOk)
				y := keep(t, x, fall, impl.CdOk)
				for other, trust := range y.Trusts {
					if trust.Failed != (stage == 3 && other == region) {
						t.Errorf("the region %d failed, was saved to %d, and is %+v", region, stage, y.Trusts)
					}
				}
			}
			x := keep(t, v, keeping{"save", 3}, impl.CdOk)
			x.Trusts[region].Failed = true
			wantCameBack(t, x, v)
		}
	})
}

// TestWhoIsLost reads nothing any more, but may save that; nothing else than Failed is changed, not even in a region that is half gone through.
func TestWhoIsLost(t *testing.T) {
	eachWritten(t, func(v impl.Volume) {
		for _, slots := range [][]impl.Slot{{{}, {}}, {newSlot(v.Plan, 0), newSlot(v.Plan, 2)}, {{}, {Seal: newSlot(v.Plan, 1).Seal}}, {{Cells: newCells(v.Plan)}, {Cells: newCells(v.Plan)}}} {
			lost := clonedVolume(v)
			lost.Slots = slots
			lost = wantLost(t, lost)
			wantVolumeOk(t, lost, true)
			for region := range lost.Trusts {
				wantAsItIs(t, lost, job{"close", int64(region), 0}, impl.CdFailed)
			}
			for at := range lost.Cells {
				wantAsItIs(t, lost, job{"read", int64(at), 0}, impl.CdFailed)
			}
			saved := keep(t, lost, keeping{"save", 3}, impl.CdOk)
			wantCameBack(t, saved, lost)
		}
	})
}

// TestKeepingOfAnyNumbers holds all calls against the chapter's words, of Volumes that are right or nearly so, at stages and slots that are there or nearly so.
func TestKeepingOfAnyNumbers(t *testing.T) {
	draw := rand.New(rand.NewSource(78))
	counts := map[keeping]int{}
	for range 12000 {
		known := knownPlans[draw.Intn(len(knownPlans))]
		v := anyVolume(draw, planOf(draw.Int63n(impl.MaxKey)+1, known.counts...))
		switch {
		case draw.Intn(8) == 0:
			v.Count = impl.MaxCount
		case len(v.Slots) == 2 && draw.Intn(2) == 0:
			v.Count = v.Slots[draw.Intn(2)].Seal.Count
		}
		for _, k := range []keeping{{"save", anyNumber(draw, 3)}, fall, {"spoil", anyNumber(draw, 1)}} {
			want, code := k.answeredByWords(v)
			wantKeeping(t, v, k, want, code)
			wantVolumeOk(t, want, len(want.Slots) != 0)
			counts[keeping{k.kind, code}]++
		}
		if t.Failed() {
			t.FailNow()
		}
	}
	for _, k := range []keeping{{"save", 0}, {"save", 1}, {"save", 3}, {"fall", 0}, {"fall", 1}, {"fall", 6}, {"spoil", 0}, {"spoil", 1}} {
		if counts[k] < 500 {
			t.Fatal(counts)
		}
	}
}

// TestKeepingIsApart has Volumes with spare room, right and not, and all kinds of calls: nothing is written into what came in, and nothing is shared with it.
func TestKeepingIsApart(t *testing.T) {
	check := func(v impl.Volume) {
		v = roomy(v)
		given := viewsOf(v)
		for _, k := range slices.Concat(allKeepings(), noKeepings()) {
			got, _ := k.answered(v)
			wantApart(t, given, got)
		}
	}
	eachVolume(79, func(draw *rand.Rand, v impl.Volume) {
		check(v)
		for slot := range 2 {
			v.Slots[slot] = drawnSlot(draw, v.Plan, 12)
			v.Count = 12
			check(v)
		}
		v.Count = impl.MaxCount
		check(v)
		v.Count = -1
		check(v)
	})
}

// TestKeepingOfVolumesWhoseListsAreOne has a Volume that came in with one list for all Cells and one for all Trusts.
func TestKeepingOfVolumesWhoseListsAreOne(t *testing.T) {
	for _, known := range knownPlans {
		v := impl.Formatted(planOf(9, known.counts...))
		for i := range v.Slots {
			v.Slots[i].Cells, v.Slots[i].Seal.Trusts = v.Cells, v.Trusts
		}
		given := viewsOf(v)
		for _, count := range []int64{0, 1, 2, impl.MaxCount} {
			v.Count = count
			for _, k := range slices.Concat(allKeepings(), noKeepings()) {
				want, code := k.answeredByWords(v)
				got := wantKeeping(t, v, k, want, code)
				wantApart(t, given, got)
			}
		}
	}
}

// TestWhatWasSavedStays writes into the Volume behind a saving, and into the one behind a fall: the Slot keeps what it has.
func TestWhatWasSavedStays(t *testing.T) {
	eachWritten(t, func(v impl.Volume) {
		saved := keep(t, v, keeping{"save", 3}, impl.CdOk)
		slot := cloned(saved.Slots[0])
		saved.Cells[0].Value = (saved.Cells[0].Value + 1) % impl.ValueMod
		saved.Trusts[0].Failed = true
		if !sameSlot(saved.Slots[0], slot) {
			t.Errorf("the Slot %+v became %+v", slot, saved.Slots[0])
		}
		back := wantCameBack(t, saved, v)
		back.Cells[0].Value = (back.Cells[0].Value + 2) % impl.ValueMod
		back.Trusts[0].Clock = 0
		if !sameSlot(back.Slots[0], slot) {
			t.Errorf("the Slot %+v became %+v", slot, back.Slots[0])
		}
		wantCameBack(t, back, v)
	})
}

// TestKeepingKeepsNothing has the same answers after others, which were refused, spent or lost.
func TestKeepingKeepsNothing(t *testing.T) {
	v := written(t, planOf(9, 3, 2), 100)
	spent, lost := clonedVolume(v), clonedVolume(v)
	spent.Count, lost.Count = impl.MaxCount, 5
	for range 3 {
		for _, k := range allKeepings() {
			want, code := k.answeredByWords(v)
			wantKeeping(t, v, k, want, code)
			wantKeeping(t, impl.Volume{}, k, impl.Volume{}, impl.CdBad)
		}
		wantLeft(t, spent, keeping{"save", 3}, impl.CdSpent)
		wantLost(t, lost)
		for _, k := range noKeepings() {
			wantLeft(t, v, k, impl.CdBad)
		}
	}
}
