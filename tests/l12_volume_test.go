package tests

import (
	"math"
	"math/rand"
	"slices"
	"testing"

	"loop.example/g00775/impl"
)

// job is one call about a volume: what is done, in which sector or region, and the value that is written, if any.
type job struct {
	kind  string
	place int64
	value int64
}

// jobAnswer is what such a call answers; the number is that of a reading alone.
type jobAnswer struct {
	volume impl.Volume
	number int64
	code   int64
}

var jobKinds = []string{"read", "write", "step", "close"}

// knownJobs are done one after the other, from the Formatted of the key 77 and the Counts 3, 2 on; another program found what they leave.
var knownJobs = []struct {
	job    job
	number int64
	code   int64
	trusts []impl.Trust
	cells  []impl.Cell
}{
	{
		job{"write", 4, 500}, 0, impl.CdOk,
		[]impl.Trust{{Clock: 3, Written: 2619687288724411508}, {Clock: 3, Read: 2410570995841826036, Written: 2619987912812964233}},
		[]impl.Cell{{Time: 1, Value: 8314}, {Time: 2, Value: 1296}, {Time: 3, Value: 4285}, {Time: 1, Value: 2885}, {Time: 3, Value: 7837}},
	},
	{
		job{"read", 4, 0}, 500, impl.CdOk,
		[]impl.Trust{{Clock: 3, Written: 2619687288724411508}, {Clock: 4, Read: 209460470087025180, Written: 418880810147099889}},
		[]impl.Cell{{Time: 1, Value: 8314}, {Time: 2, Value: 1296}, {Time: 3, Value: 4285}, {Time: 1, Value: 2885}, {Time: 4, Value: 9300}},
	},
	{
		job{"write", 0, 10006}, 0, impl.CdOk,
		[]impl.Trust{{Clock: 4, Read: 2410428542513963183, Written: 418418590061437131}, {Clock: 4, Read: 209460470087025180, Written: 418880810147099889}},
		[]impl.Cell{{Time: 4, Value: 2695}, {Time: 2, Value: 1296}, {Time: 3, Value: 4285}, {Time: 1, Value: 2885}, {Time: 4, Value: 9300}},
	},
	{
		job{"step", 0, 0}, 0, impl.CdOk,
		[]impl.Trust{{Clock: 5, Cursor: 1, Read: 209159843850988806, Written: 418418590061437131, NextWritten: 2410420742853350039}, {Clock: 4, Read: 209460470087025180, Written: 418880810147099889}},
		[]impl.Cell{{Time: 5, Value: 4158}, {Time: 2, Value: 1296}, {Time: 3, Value: 4285}, {Time: 1, Value: 2885}, {Time: 4, Value: 9300}},
	},
	{
		job{"read", 0, 0}, 10006, impl.CdOk,
		[]impl.Trust{{Clock: 6, Cursor: 1, Read: 209159843850988806, Written: 418418590061437131, NextRead: 2410420742853350039, NextWritten: 209158890368248686}, {Clock: 4, Read: 209460470087025180, Written: 418880810147099889}},
		[]impl.Cell{{Time: 6, Value: 5621}, {Time: 2, Value: 1296}, {Time: 3, Value: 4285}, {Time: 1, Value: 2885}, {Time: 4, Value: 9300}},
	},
	{
		job{"write", 1, 1}, 0, impl.CdOk,
		[]impl.Trust{{Clock: 7, Cursor: 1, Read: 2619610449611963429, Written: 2828886313414577963, NextRead: 2410420742853350039, NextWritten: 209158890368248686}, {Clock: 4, Read: 209460470087025180, Written: 418880810147099889}},
		[]impl.Cell{{Time: 6, Value: 5621}, {Time: 7, Value: 8612}, {Time: 3, Value: 4285}, {Time: 1, Value: 2885}, {Time: 4, Value: 9300}},
	},
	{
		job{"close", 0, 0}, 0, impl.CdPassed,
		[]impl.Trust{{Clock: 9, Epoch: 1, Read: 2410420742853350039, Written: 418415736055667718}, {Clock: 4, Read: 209460470087025180, Written: 418880810147099889}},
		[]impl.Cell{{Time: 6, Value: 5621}, {Time: 8, Value: 68}, {Time: 9, Value: 3056}, {Time: 1, Value: 2885}, {Time: 4, Value: 9300}},
	},
	{
		job{"close", 1, 0}, 0, impl.CdPassed,
		[]impl.Trust{{Clock: 9, Epoch: 1, Read: 2410420742853350039, Written: 418415736055667718}, {Clock: 6, Epoch: 1, Written: 209419388724818238}},
		[]impl.Cell{{Time: 6, Value: 5621}, {Time: 8, Value: 68}, {Time: 9, Value: 3056}, {Time: 5, Value: 8737}, {Time: 6, Value: 2219}},
	},
	{
		job{"step", 0, 0}, 0, impl.CdOk,
		[]impl.Trust{{Clock: 10, Epoch: 1, Cursor: 1, Read: 209158890368248686, Written: 418415736055667718, NextWritten: 2410416368429157056}, {Clock: 6, Epoch: 1, Written: 209419388724818238}},
		[]impl.Cell{{Time: 10, Value: 1466}, {Time: 8, Value: 68}, {Time: 9, Value: 3056}, {Time: 5, Value: 8737}, {Time: 6, Value: 2219}},
	},
}

func (j job) answered(v impl.Volume) jobAnswer {
	var got jobAnswer
	switch j.kind {
	case "read":
		got.volume, got.number, got.code = impl.ReadIn(v, j.place)
	case "write":
		got.volume, got.code = impl.WriteIn(v, j.place, j.value)
	case "step":
		got.volume, got.code = impl.StepIn(v, j.place)
	default:
		got.volume, got.code = impl.CloseIn(v, j.place)
	}
	return got
}

// answeredByWords is what the chapter tells of any call about any volume, the calls of the layers below told by their chapters' words, too.
func (j job) answeredByWords(v impl.Volume) jobAnswer {
	if !volumeByWords(v) {
		return jobAnswer{code: 1}
	}
	left := jobAnswer{volume: clonedVolume(v)}
	switch {
	case j.kind == "read":
		left.touchByWords(j.place, -1)
	case j.kind == "write" && (j.value < 0 || j.value > 10006):
		left.code = 1
	case j.kind == "write":
		left.touchByWords(j.place, j.value)
		left.number = 0
	case j.place < 0 || j.place >= int64(len(v.Trusts)):
		left.code = 1
	default:
		left.stepByWords(j.place)
		for j.kind == "close" && left.code == 0 {
			left.stepByWords(j.place)
		}
	}
	return left
}

func (a *jobAnswer) touchByWords(at, value int64) {
	x := touch{plan: a.volume.Plan, at: at, value: value}
	region, _ := x.placeByWords()
	if region < 0 {
		a.code = 1
		return
	}
	x.trust, x.cell = a.volume.Trusts[region], a.volume.Cells[at]
	got := x.answeredByWords()
	a.volume.Trusts[region], a.volume.Cells[at] = got.trust, got.cell
	a.number, a.code = got.number, got.code
}

func (a *jobAnswer) stepByWords(region int64) {
	at := together(a.volume.Plan.Counts[:region]) + a.volume.Trusts[region].Cursor
	got := scan{a.volume.Plan, region, a.volume.Trusts[region], a.volume.Cells[at]}.answeredByWords()
	a.volume.Trusts[region], a.volume.Cells[at] = got.trust, got.cell
	a.code = got.code
}

func planByWords(p impl.Plan) bool {
	if p.Key < 1 || p.Key > 1000000 || len(p.Counts) < 1 || len(p.Counts) > 4 {
		return false
	}
	for _, count := range p.Counts {
		if count < 1 || count > 8 {
			return false
		}
	}
	return together(p.Counts) <= 24
}

// cellsByWords asks for as many right cells as the plan, which must be right, has sectors.
func cellsByWords(p impl.Plan, cells []impl.Cell) bool {
	for _, c := range cells {
		if c.Time < 0 || c.Time > 100000 || c.Value < 0 || c.Value > 10006 {
			return false
		}
	}
	return int64(len(cells)) == together(p.Counts)
}

// volumeByWords is what the chapter tells of a volume that is right, with the limits written out.
func volumeByWords(v impl.Volume) bool {
	if !planByWords(v.Plan) || len(v.Trusts) != len(v.Plan.Counts) || !cellsByWords(v.Plan, v.Cells) {
		return false
	}
	for region, x := range v.Trusts {
		if !rightByWords(x, v.Plan.Counts[region]) {
			return false
		}
	}
	for _, s := range v.Slots {
		if len(s.Seal.Trusts) > 4 || (len(s.Cells) != 0 && !cellsByWords(v.Plan, s.Cells)) {
			return false
		}
	}
	return len(v.Slots) == 2 && v.Count >= 0 && v.Count <= 10000
}

// clonedVolume is the volume with memory of its own, which may be changed.
func clonedVolume(v impl.Volume) impl.Volume {
	v.Plan.Counts = slices.Clone(v.Plan.Counts)
	v.Trusts, v.Cells, v.Slots = slices.Clone(v.Trusts), slices.Clone(v.Cells), clonedAll(v.Slots)
	return v
}

func samePlan(a, b impl.Plan) bool {
	return a.Key == b.Key && slices.Equal(a.Counts, b.Counts)
}

func sameVolume(a, b impl.Volume) bool {
	return samePlan(a.Plan, b.Plan) && slices.Equal(a.Trusts, b.Trusts) && slices.Equal(a.Cells, b.Cells) &&
		slices.EqualFunc(a.Slots, b.Slots, sameSlot) && a.Count == b.Count
}

func wantVolumeOk(t *testing.T, v impl.Volume, want bool) {
	t.Helper()
	if got := impl.VolumeOk(v); got != want {
		t.Errorf("VolumeOk(%+v) = %t, want %t", v, got, want)
	}
}

// wantJob asks for an answer, and that the volume which came in is as it was.
func wantJob(t *testing.T, v impl.Volume, j job, want jobAnswer) {
	t.Helper()
	kept := clonedVolume(v)
	got := j.answered(v)
	if !sameVolume(got.volume, want.volume) || got.number != want.number || got.code != want.code {
		t.Errorf("%v of %+v is %+v, want %+v", j, v, got, want)
	}
	if !sameVolume(v, kept) {
		t.Errorf("%v made %+v of %+v, which it was given", j, v, kept)
	}
}

func wantAsItIs(t *testing.T, v impl.Volume, j job, code int64) {
	t.Helper()
	wantJob(t, v, j, jobAnswer{volume: v, code: code})
}

// done does what the chapter tells, asks that the volume stays right, and answers what there is from then on.
func done(t *testing.T, v impl.Volume, j job, code int64) jobAnswer {
	t.Helper()
	want := j.answeredByWords(v)
	wantJob(t, v, j, want)
	wantVolumeOk(t, want.volume, true)
	if want.code != code {
		t.Errorf("the code of %v of %+v is %d, want %d", j, v, want.code, code)
	}
	return j.answered(v)
}

// someJobs are one of each kind, at that place.
func someJobs(place int64) []job {
	var list []job
	for _, kind := range jobKinds {
		list = append(list, job{kind, place, 7})
	}
	return list
}

// wantNoVolume asks all calls about a volume that is not right, also at places that no volume has.
func wantNoVolume(t *testing.T, v impl.Volume) {
	t.Helper()
	wantVolumeOk(t, v, false)
	for _, place := range []int64{0, 1, -1, 24, math.MaxInt64} {
		for _, j := range append(someJobs(place), job{"write", place, -1}, job{"write", place, impl.ValueMod}) {
			wantJob(t, v, j, jobAnswer{code: 1})
		}
	}
}

// wantRightVolume asks for a volume that all calls take.
func wantRightVolume(t *testing.T, v impl.Volume) {
	t.Helper()
	wantVolumeOk(t, v, true)
	for _, j := range someJobs(0) {
		wantJob(t, v, j, j.answeredByWords(v))
	}
}

// wantValues reads each sector of one and the same volume.
func wantValues(t *testing.T, v impl.Volume, values []int64) {
	t.Helper()
	for at, value := range values {
		if _, number, code := impl.ReadIn(v, int64(at)); number != value || code != impl.CdOk {
			t.Errorf("the sector %d of %+v is read as %d with the code %d, want %d", at, v, number, code, value)
		}
	}
}

// drawnVolume draws a right one; what it has been through is not told by its numbers.
func drawnVolume(draw *rand.Rand, p impl.Plan) impl.Volume {
	v := impl.Volume{Plan: p, Trusts: drawnTrusts(draw, p), Cells: drawnCells(draw, p), Slots: make([]impl.Slot, 2), Count: draw.Int63n(impl.MaxCount + 1)}
	for i := range v.Slots {
		v.Slots[i] = keptSlot(draw, p)
	}
	return v
}

// keptSlot draws one that a volume may have, right or not.
func keptSlot(draw *rand.Rand, p impl.Plan) impl.Slot {
	s := drawnSlot(draw, p, draw.Int63n(impl.MaxCount+1))
	switch draw.Intn(5) {
	case 0:
		return impl.Slot{}
	case 1:
		s.Seal.Mac = 0
	case 2:
		s.Cells = nil
	case 3:
		s.Seal.Count, s.Seal.Trusts = int64(draw.Uint64()), make([]impl.Trust, draw.Intn(impl.MaxRegions+1))
	}
	return s
}

// eachVolume calls with the Formatted of each of the known plans, and with drawn ones.
func eachVolume(seed int64, call func(draw *rand.Rand, v impl.Volume)) {
	draw := rand.New(rand.NewSource(seed))
	for _, known := range knownPlans {
		p := planOf(draw.Int63n(impl.MaxKey)+1, known.counts...)
		call(draw, impl.Formatted(p))
		for range 3 {
			call(draw, drawnVolume(draw, p))
		}
	}
}

// brokenVolumes are some of a right one, each with one thing that is not right.
func brokenVolumes(right impl.Volume) []impl.Volume {
	last := len(right.Cells) - 1
	end := len(right.Trusts) - 1
	var list []impl.Volume
	for _, change := range []func(v *impl.Volume){
		func(v *impl.Volume) { v.Plan.Key = 0 },
		func(v *impl.Volume) { v.Plan.Key = impl.MaxKey + 1 },
		func(v *impl.Volume) { v.Plan.Counts = nil },
		func(v *impl.Volume) { v.Plan.Counts[0] = 0 },
		func(v *impl.Volume) { v.Plan.Counts[end] = 9 },
		func(v *impl.Volume) { v.Plan.Counts = append(v.Plan.Counts, 1) },
		func(v *impl.Volume) { v.Plan.Counts = append(v.Plan.Counts, 0) },
		func(v *impl.Volume) { v.Plan = impl.Plan{} },
		func(v *impl.Volume) { v.Trusts = nil },
		func(v *impl.Volume) { v.Trusts = v.Trusts[1:] },
		func(v *impl.Volume) { v.Trusts = append(v.Trusts, impl.Trust{}) },
		func(v *impl.Volume) { v.Trusts[0].Clock = -1 },
		func(v *impl.Volume) { v.Trusts[end].Cursor = v.Plan.Counts[end] },
		func(v *impl.Volume) { v.Trusts[end] = impl.Trust{NextRead: 1} },
		func(v *impl.Volume) { v.Cells = nil },
		func(v *impl.Volume) { v.Cells = v.Cells[:last] },
		func(v *impl.Volume) { v.Cells = append(v.Cells, impl.Cell{}) },
		func(v *impl.Volume) { v.Cells[0].Time = -1 },
		func(v *impl.Volume) { v.Cells[last].Value = impl.ValueMod },
		func(v *impl.Volume) { v.Slots = nil },
		func(v *impl.Volume) { v.Slots = v.Slots[1:] },
		func(v *impl.Volume) { v.Slots = append(v.Slots, impl.Slot{}) },
		func(v *impl.Volume) { v.Slots = append(v.Slots, v.Slots...) },
		func(v *impl.Volume) { v.Slots[0].Cells = make([]impl.Cell, last+2) },
		func(v *impl.Volume) { v.Slots[1].Cells = make([]impl.Cell, last+2) },
		func(v *impl.Volume) { v.Slots[1].Cells = slices.Repeat([]impl.Cell{{Time: -1}}, last+1) },
		func(v *impl.Volume) { v.Slots[0].Cells = append(make([]impl.Cell, last), impl.Cell{Value: -1}) },
		func(v *impl.Volume) { v.Slots[0].Seal.Trusts = make([]impl.Trust, 5) },
		func(v *impl.Volume) { v.Slots[1].Seal.Trusts = make([]impl.Trust, 5) },
		func(v *impl.Volume) { v.Count = -1 },
		func(v *impl.Volume) { v.Count = impl.MaxCount + 1 },
	} {
		v := clonedVolume(right)
		change(&v)
		list = append(list, v)
	}
	if last > 0 {
		v := clonedVolume(right)
		v.Slots[0].Cells = make([]impl.Cell, last)
		list = append(list, v)
	}
	return append(list, impl.Volume{})
}

func TestVolumesByHand(t *testing.T) {
	p, slot := planOf(77, 3, 2), knownSlots[2].slot
	v := impl.Formatted(p)
	want := impl.Volume{Plan: p, Trusts: slot.Seal.Trusts, Cells: slot.Cells, Slots: []impl.Slot{{}, slot}, Count: 1}
	if !sameVolume(v, want) {
		t.Fatalf("Formatted(%v) = %+v, want %+v", p, v, want)
	}
	for _, known := range knownJobs {
		want.Trusts, want.Cells = known.trusts, known.cells
		wantJob(t, v, known.job, jobAnswer{want, known.number, known.code})
		v = done(t, v, known.job, known.code).volume
	}
}

// TestAChangeByHand goes on from the last one of the known jobs, with one Cell changed in each region.
func TestAChangeByHand(t *testing.T) {
	v := impl.Formatted(planOf(77, 3, 2))
	for _, known := range knownJobs {
		v = known.job.answered(v).volume
	}
	v.Cells[1].Value++
	want := clonedVolume(v)
	want.Trusts[0] = impl.Trust{Clock: 11, Epoch: 1, Cursor: 1, Read: 2619608549088934136, Written: 2828875664043162704, NextWritten: 2410416368429157056}
	want.Cells[1] = impl.Cell{Time: 11, Value: 4458}
	wantJob(t, v, job{"read", 1, 0}, jobAnswer{want, 2, impl.CdOk})

	v = clonedVolume(want)
	want.Trusts[0] = impl.Trust{Clock: 13, Epoch: 1, Read: 2828875666190646353, Written: 2828875664043162704, Failed: true}
	want.Cells[1], want.Cells[2] = impl.Cell{Time: 12, Value: 5921}, impl.Cell{Time: 13, Value: 8908}
	wantJob(t, v, job{"close", 0, 0}, jobAnswer{want, 0, impl.CdCaught})
	for _, j := range someJobs(0) {
		wantAsItIs(t, want, j, impl.CdFailed)
	}

	v = clonedVolume(want)
	want.Trusts[1] = impl.Trust{Clock: 7, Epoch: 1, Read: 2410541135081685101, Written: 2619945880115500820}
	want.Cells[3] = impl.Cell{Time: 7, Value: 1656}
	wantJob(t, v, job{"read", 3, 0}, jobAnswer{want, 0, impl.CdOk})

	want.Cells[3] = impl.Cell{Time: 9, Value: 5}
	v = clonedVolume(want)
	want.Trusts[1].Failed = true
	wantJob(t, v, job{"write", 3, 7}, jobAnswer{want, 0, impl.CdCaught})
	wantAsItIs(t, want, job{"close", 1, 0}, impl.CdFailed)
}

// wantFormatted asks for the chapter's words, put together from the layers below.
func wantFormatted(t *testing.T, p impl.Plan) {
	t.Helper()
	v := impl.Formatted(p)
	want := impl.Volume{Plan: p, Trusts: newTrusts(p), Cells: newCells(p), Slots: []impl.Slot{{}, newSlot(p, 1)}, Count: 1}
	if !sameVolume(v, want) {
		t.Errorf("Formatted(%v) = %+v, want %+v", p, v, want)
	}
	wantVolumeOk(t, v, true)
	wantSlotOk(t, p, v.Slots[0], false)
	wantSlotOk(t, p, v.Slots[1], true)
	wantChosen(t, p, v.Slots, v.Count, 1)
}

func TestFormatted(t *testing.T) {
	for _, known := range knownPlans {
		for _, key := range rightKeys {
			p := planOf(key, known.counts...)
			wantFormatted(t, p)
			wantValues(t, impl.Formatted(p), make([]int64, len(known.regions)))
		}
	}
}

// TestEachPlanIsFormatted has all right plans there are.
func TestEachPlanIsFormatted(t *testing.T) {
	draw := rand.New(rand.NewSource(53))
	for many := 1; many <= impl.MaxRegions; many++ {
		eachCounts(many, 1, 8, func(counts []int64) {
			if together(counts) <= impl.MaxSectors {
				wantFormatted(t, planOf(draw.Int63n(impl.MaxKey)+1, counts...))
			}
		})
	}
}

func TestNoPlanIsFormatted(t *testing.T) {
	for _, p := range wrongPlans() {
		v := impl.Formatted(p)
		if !sameVolume(v, impl.Volume{}) {
			t.Errorf("Formatted(%v) = %+v", p, v)
		}
		wantNoVolume(t, v)
	}
	for _, key := range wrongKeys {
		if v := impl.Formatted(planOf(key, 3, 2)); !sameVolume(v, impl.Volume{}) {
			t.Errorf("Formatted with the key %d is %+v", key, v)
		}
	}
}

// TestWhatWasWrittenIsRead is promise 12 of each sector, with all others read as before.
func TestWhatWasWrittenIsRead(t *testing.T) {
	for _, known := range knownPlans {
		v := impl.Formatted(planOf(9, known.counts...))
		values := make([]int64, len(known.regions))
		for at := range values {
			for _, value := range append(slices.Clone(rightValues), 100+int64(at)) {
				v = done(t, v, job{"write", int64(at), value}, impl.CdOk).volume
				values[at] = value
				read := done(t, v, job{"read", int64(at), 0}, impl.CdOk)
				if read.number != value {
					t.Errorf("%d was written into %d, and %d is read", value, at, read.number)
				}
				v = read.volume
				wantValues(t, v, values)
			}
		}
	}
}

// TestAVolumeStaysRight is promise 12 of long rows of all calls, each with the Volume that the one before answered: each reading answers what was written last, and each region passes.
func TestAVolumeStaysRight(t *testing.T) {
	draw := rand.New(rand.NewSource(54))
	for range 4 {
		for _, known := range knownPlans {
			v := impl.Formatted(planOf(draw.Int63n(impl.MaxKey)+1, known.counts...))
			values := make([]int64, len(known.regions))
			for range 150 {
				j := job{jobKinds[draw.Intn(3)], draw.Int63n(int64(len(values))), draw.Int63n(impl.ValueMod)}
				v = wantHonestJob(t, v, j, values)
			}
			wantValues(t, v, values)
			for region := range known.counts {
				v = done(t, v, job{"close", int64(region), 0}, impl.CdPassed).volume
			}
			wantValues(t, v, values)
			if t.Failed() {
				t.FailNow()
			}
		}
	}
}

// wantHonestJob does one call where nobody has changed a cell. A step is that of the region with the sector j.place, and now and then all those that are left.
func wantHonestJob(t *testing.T, v impl.Volume, j job, values []int64) impl.Volume {
	t.Helper()
	region := impl.RegionOf(v.Plan, j.place)
	code := int64(impl.CdOk)
	switch j.kind {
	case "write":
		values[j.place] = j.value
	case "step":
		if j.value%8 == 0 {
			j.kind = "close"
		}
		j.place = region
		if j.kind == "close" || v.Trusts[region].Cursor == v.Plan.Counts[region]-1 {
			code = impl.CdPassed
		}
	}
	got := done(t, v, j, code)
	if j.kind == "read" && got.number != values[j.place] {
		t.Errorf("the sector %d is read as %d, want %d", j.place, got.number, values[j.place])
	}
	wantOneRegion(t, v, got.volume, region)
	return got.volume
}

// wantOneRegion asks that of all there is no more than one region's Trust and Cells have changed.
func wantOneRegion(t *testing.T, before, after impl.Volume, region int64) {
	t.Helper()
	first := together(before.Plan.Counts[:region])
	want := clonedVolume(before)
	want.Trusts[region] = after.Trusts[region]
	for at := first; at < first+before.Plan.Counts[region]; at++ {
		want.Cells[at] = after.Cells[at]
	}
	if !sameVolume(after, want) {
		t.Errorf("%+v became %+v: that is more than the region %d", before, after, region)
	}
}

// TestRegionsPassOneByOne closes each region of a new Volume alone: its Epoch is one more, and nothing else of the Volume has changed.
func TestRegionsPassOneByOne(t *testing.T) {
	eachRegion(77, func(p impl.Plan, region int64) {
		before := impl.Formatted(p)
		after := done(t, before, job{"close", region, 0}, impl.CdPassed).volume
		wantOneRegion(t, before, after, region)
		for other, x := range after.Trusts {
			epoch := int64(0)
			if int64(other) == region {
				epoch = 1
			}
			if x.Epoch != epoch || x.Cursor != 0 || x.Failed {
				t.Errorf("with the region %d closed the Trusts are %+v", region, after.Trusts)
			}
		}
	})
}

// TestStepsComeToAClose steps as often as the region has sectors left, from each Cursor on.
func TestStepsComeToAClose(t *testing.T) {
	eachRegion(9, func(p impl.Plan, region int64) {
		v := impl.Formatted(p)
		count := p.Counts[region]
		for range count + 2 {
			stepped := v
			for cursor := v.Trusts[region].Cursor; cursor < count-1; cursor++ {
				stepped = done(t, stepped, job{"step", region, 0}, impl.CdOk).volume
			}
			want := done(t, stepped, job{"step", region, 0}, impl.CdPassed)
			wantJob(t, v, job{"close", region, 0}, want)
			v = job{"step", region, 0}.answered(v).volume
		}
	})
}

// TestClosesFromEachCursor touches sectors ahead of the Cursor and behind it, and closes then.
func TestClosesFromEachCursor(t *testing.T) {
	eachRegion(9, func(p impl.Plan, region int64) {
		first := together(p.Counts[:region])
		for cursor := range p.Counts[region] {
			v := impl.Formatted(p)
			for range cursor {
				v = done(t, v, job{"step", region, 0}, impl.CdOk).volume
			}
			for at := first; at < first+p.Counts[region]; at++ {
				v = done(t, v, job{"write", at, at + 5}, impl.CdOk).volume
				v = done(t, v, job{"read", at, 0}, impl.CdOk).volume
			}
			for range 2 {
				v = done(t, v, job{"close", region, 0}, impl.CdPassed).volume
			}
			if x := v.Trusts[region]; x.Epoch != 2 || x.Cursor != 0 {
				t.Errorf("closed twice from %d on, the Trust is %+v", cursor, x)
			}
		}
	})
}

// TestVolumesAtTheLastTime has a Clock of MaxTime, which one region alone is at.
func TestVolumesAtTheLastTime(t *testing.T) {
	eachRegion(9, func(p impl.Plan, region int64) {
		v := impl.Formatted(p)
		v.Trusts[region].Clock = impl.MaxTime
		wantVolumeOk(t, v, true)
		for at := range impl.SectorsOf(p) {
			for _, j := range []job{{"read", at, 0}, {"write", at, 7}} {
				if impl.RegionOf(p, at) == region {
					wantAsItIs(t, v, j, impl.CdSpent)
				} else {
					done(t, v, j, impl.CdOk)
				}
			}
		}
		for other := range int64(len(p.Counts)) {
			if other == region {
				wantAsItIs(t, v, job{"step", other, 0}, impl.CdSpent)
				wantAsItIs(t, v, job{"close", other, 0}, impl.CdSpent)
			} else {
				done(t, v, job{"close", other, 0}, impl.CdPassed)
			}
		}
	})
}

// TestTheTimeRunsOutWhileClosing has fewer times left than sectors: so many are gone through, and the rest are not.
func TestTheTimeRunsOutWhileClosing(t *testing.T) {
	eachRegion(9, func(p impl.Plan, region int64) {
		count := p.Counts[region]
		for left := range count + 2 {
			v := impl.Formatted(p)
			v.Trusts[region].Clock = impl.MaxTime - left
			code := int64(impl.CdSpent)
			if left >= count {
				code = impl.CdPassed
			}
			x := done(t, v, job{"close", region, 0}, code).volume.Trusts[region]
			if code == impl.CdSpent && (x.Clock != impl.MaxTime || x.Cursor != left || x.Epoch != 0 || x.Failed) {
				t.Errorf("with %d times left the Trust is %+v", left, x)
			}
		}
	})
}

// TestVolumesInTheLastEpoch are read and written, but gone through no more.
func TestVolumesInTheLastEpoch(t *testing.T) {
	eachRegion(9, func(p impl.Plan, region int64) {
		first := together(p.Counts[:region])
		v := impl.Formatted(p)
		v.Trusts[region].Epoch = impl.MaxEpoch
		wantAsItIs(t, v, job{"step", region, 0}, impl.CdSpent)
		wantAsItIs(t, v, job{"close", region, 0}, impl.CdSpent)
		done(t, v, job{"write", first, 7}, impl.CdOk)
		done(t, v, job{"read", first, 0}, impl.CdOk)
		v.Trusts[region].Epoch = impl.MaxEpoch - 1
		x := done(t, v, job{"close", region, 0}, impl.CdPassed).volume
		if x.Trusts[region].Epoch != impl.MaxEpoch {
			t.Errorf("one epoch is left: %+v", x.Trusts)
		}
		wantAsItIs(t, x, job{"close", region, 0}, impl.CdSpent)
	})
}

// TestWhatFailedStaysSo has one region that has Failed, and the others going on as before.
func TestWhatFailedStaysSo(t *testing.T) {
	eachRegion(9, func(p impl.Plan, region int64) {
		v := impl.Formatted(p)
		v.Trusts[region].Failed = true
		whole := impl.Formatted(p)
		for at := range impl.SectorsOf(p) {
			for _, j := range []job{{"read", at, 0}, {"write", at, 7}} {
				wantLikeTheWhole(t, v, whole, j, region, impl.RegionOf(p, at))
			}
		}
		for other := range int64(len(p.Counts)) {
			wantLikeTheWhole(t, v, whole, job{"step", other, 0}, region, other)
			wantLikeTheWhole(t, v, whole, job{"close", other, 0}, region, other)
		}
	})
}

// wantLikeTheWhole has a Volume with one failed region, and the same one in which none has failed.
func wantLikeTheWhole(t *testing.T, v, whole impl.Volume, j job, failed, region int64) {
	t.Helper()
	if region == failed {
		wantAsItIs(t, v, j, impl.CdFailed)
		return
	}
	want := j.answered(whole)
	want.volume.Trusts[failed].Failed = true
	wantJob(t, v, j, want)
}

// TestLateCellsAreCaughtAtOnce has a Cell whose Time is more than the Clock of its region, where it is read or gone through.
func TestLateCellsAreCaughtAtOnce(t *testing.T) {
	for _, known := range knownPlans {
		p := planOf(9, known.counts...)
		for at, region := range known.regions {
			v := impl.Formatted(p)
			v.Cells[at].Time = v.Trusts[region].Clock + 1
			want := clonedVolume(v)
			want.Trusts[region].Failed = true
			wantJob(t, v, job{"read", int64(at), 0}, jobAnswer{volume: want, code: 4})
			wantJob(t, v, job{"write", int64(at), 7}, jobAnswer{volume: want, code: 4})
			wantJob(t, want, job{"read", int64(at), 0}, jobAnswer{volume: want, code: 2})
			wantLateClose(t, v, int64(at), region)
			for other, its := range known.regions {
				if other != at {
					done(t, v, job{"read", int64(other), 0}, impl.CdOk)
				}
				if its != region {
					done(t, v, job{"close", its, 0}, impl.CdPassed)
				}
			}
		}
	}
}

// wantLateClose goes through the region up to the late Cell. The Clock goes on meanwhile: a Cell that is later than it was, but no later than it is by then, is caught by the verdict.
func wantLateClose(t *testing.T, v impl.Volume, at, region int64) {
	t.Helper()
	number := at - together(v.Plan.Counts[:region])
	late := clonedVolume(v)
	late.Cells[at].Time = v.Trusts[region].Clock + number + 1
	x := done(t, late, job{"close", region, 0}, impl.CdCaught).volume
	if !x.Trusts[region].Failed || x.Trusts[region].Cursor != number || x.Cells[at] != late.Cells[at] {
		t.Errorf("the Cell %d of %+v is late, and closing leaves %+v", at, late, x)
	}
	wantAsItIs(t, x, job{"close", region, 0}, impl.CdFailed)
	late.Cells[at] = impl.Cell{Time: late.Cells[at].Time - 1, Value: (late.Cells[at].Value + 1) % impl.ValueMod}
	x = done(t, late, job{"close", region, 0}, impl.CdCaught).volume
	if !x.Trusts[region].Failed || x.Trusts[region].Cursor != 0 {
		t.Errorf("the Cell %d of %+v is changed, and closing leaves %+v", at, late, x)
	}
}

// TestChangedCellsAreCaughtAtTheClose reads another value than was written, with nobody knowing until the region is closed.
func TestChangedCellsAreCaughtAtTheClose(t *testing.T) {
	for _, known := range knownPlans {
		p := planOf(77, known.counts...)
		for at, region := range known.regions {
			v := impl.Formatted(p)
			v.Cells[at].Value = (v.Cells[at].Value + 1) % impl.ValueMod
			read := done(t, v, job{"read", int64(at), 0}, impl.CdOk)
			if read.number != 1 {
				t.Errorf("the sector %d is read as %d", at, read.number)
			}
			for _, x := range []impl.Volume{v, read.volume} {
				x = done(t, x, job{"close", region, 0}, impl.CdCaught).volume
				if !x.Trusts[region].Failed || x.Trusts[region].Epoch != 0 {
					t.Errorf("the Cell %d is changed, and closing leaves %+v", at, x)
				}
				for other := range int64(len(p.Counts)) {
					if other != region {
						x = done(t, x, job{"close", other, 0}, impl.CdPassed).volume
					}
				}
				wantAsItIs(t, x, job{"read", int64(at), 0}, impl.CdFailed)
			}
		}
	}
}

// TestSlotsThatAVolumeMayHave need not be right, and hinder nothing.
func TestSlotsThatAVolumeMayHave(t *testing.T) {
	eachVolume(55, func(draw *rand.Rand, v impl.Volume) {
		sectors := len(v.Cells)
		for _, place := range []int{0, 1} {
			for trusts := range impl.MaxRegions + 1 {
				for _, cells := range []int{0, sectors} {
					v.Slots[place] = impl.Slot{
						Seal:  impl.Seal{Count: anyNumber(draw, impl.MaxCount), Trusts: slices.Repeat([]impl.Trust{greatTrust}, trusts), Mac: anyNumber(draw, impl.MixMod)},
						Cells: make([]impl.Cell, cells),
					}
					wantRightVolume(t, v)
				}
				v.Slots[place].Seal.Trusts = slices.Repeat([]impl.Trust{{Clock: -1, Cursor: 99}}, trusts)
				wantRightVolume(t, v)
			}
			v.Slots[place].Seal.Trusts = make([]impl.Trust, impl.MaxRegions+1)
			wantNoVolume(t, v)
			v.Slots[place] = impl.Slot{}
			wantRightVolume(t, v)
		}
		v.Slots = []impl.Slot{newSlot(v.Plan, 3), newSlot(v.Plan, 3)}
		wantRightVolume(t, v)
	})
}

// TestCellsOfTheSlotsOfAVolume are as many right ones as sectors, or none.
func TestCellsOfTheSlotsOfAVolume(t *testing.T) {
	eachVolume(56, func(_ *rand.Rand, v impl.Volume) {
		for place := range 2 {
			right := clonedVolume(v)
			for many := range 2*len(v.Cells) + 2 {
				v.Slots[place].Cells = make([]impl.Cell, many)
				wantVolumeOk(t, v, many == 0 || many == len(v.Cells))
			}
			for _, c := range append(wrongCells(), edgeCells()...) {
				for _, at := range []int{0, len(v.Cells) - 1} {
					v.Slots[place].Cells = make([]impl.Cell, len(v.Cells))
					v.Slots[place].Cells[at] = c
					wantVolumeOk(t, v, volumeByWords(v))
				}
			}
			v = right
		}
	})
}

func TestCountsOfAVolume(t *testing.T) {
	eachVolume(57, func(_ *rand.Rand, v impl.Volume) {
		for _, count := range rightCounts {
			v.Count = count
			wantRightVolume(t, v)
		}
		for _, count := range noCounts {
			v.Count = count
			wantNoVolume(t, v)
		}
	})
}

func TestPlansOfAVolume(t *testing.T) {
	eachVolume(58, func(_ *rand.Rand, v impl.Volume) {
		right := v.Plan
		for _, key := range rightKeys {
			v.Plan.Key = key
			wantRightVolume(t, v)
		}
		for _, key := range wrongKeys {
			v.Plan.Key = key
			wantNoVolume(t, v)
		}
		for _, p := range wrongPlans() {
			v.Plan = p
			wantNoVolume(t, v)
		}
		for _, known := range knownPlans {
			v.Plan = planOf(right.Key, known.counts...)
			wantVolumeOk(t, v, volumeByWords(v))
		}
	})
}

// TestTrustsOfAVolume changes one number of one of them at a time, and has too few, too many, and none.
func TestTrustsOfAVolume(t *testing.T) {
	eachVolume(59, func(_ *rand.Rand, v impl.Volume) {
		for region, right := range v.Trusts {
			for _, field := range allTrustFields() {
				for _, number := range slices.Concat(field.right, field.wrong) {
					v.Trusts[region] = right
					*field.of(&v.Trusts[region]) = number
					wantVolumeOk(t, v, volumeByWords(v))
				}
				for _, number := range field.wrong {
					v.Trusts[region] = right
					*field.of(&v.Trusts[region]) = number
					wantVolumeOk(t, v, false)
				}
			}
			v.Trusts[region] = impl.Trust{Cursor: v.Plan.Counts[region]}
			wantNoVolume(t, v)
			v.Trusts[region].Cursor--
			wantRightVolume(t, v)
		}
		right := v.Trusts
		for many := range 7 {
			v.Trusts = slices.Repeat(right, 7)[:many]
			wantVolumeOk(t, v, many == len(right))
		}
	})
}

func TestCellsOfAVolume(t *testing.T) {
	eachVolume(60, func(_ *rand.Rand, v impl.Volume) {
		for at, right := range v.Cells {
			for _, c := range wrongCells() {
				v.Cells[at] = c
				wantVolumeOk(t, v, false)
			}
			for _, c := range edgeCells() {
				v.Cells[at] = c
				wantVolumeOk(t, v, true)
			}
			v.Cells[at] = right
		}
		right := v.Cells
		for many := range 50 {
			v.Cells = slices.Repeat(right, 50)[:many]
			wantVolumeOk(t, v, many == len(right))
		}
	})
}

func TestHowManySlotsAVolumeHas(t *testing.T) {
	eachVolume(61, func(_ *rand.Rand, v impl.Volume) {
		for many := range 6 {
			v.Slots = make([]impl.Slot, many)
			wantVolumeOk(t, v, many == 2)
			v.Slots = slices.Repeat([]impl.Slot{newSlot(v.Plan, 1)}, many)
			wantVolumeOk(t, v, many == 2)
		}
	})
}

func TestBrokenVolumes(t *testing.T) {
	eachVolume(62, func(_ *rand.Rand, right impl.Volume) {
		for _, v := range brokenVolumes(right) {
			wantNoVolume(t, v)
		}
		wantRightVolume(t, right)
	})
}

// TestNoSuchPlace has sectors and regions that are not there: the Volume is as it is, whatever has failed.
func TestNoSuchPlace(t *testing.T) {
	eachVolume(63, func(_ *rand.Rand, v impl.Volume) {
		sectors, regions := int64(len(v.Cells)), int64(len(v.Trusts))
		for _, place := range append([]int64{sectors, sectors + 1, -sectors}, wrongNumbers...) {
			wantAsItIs(t, v, job{"read", place, 0}, impl.CdBad)
			for _, value := range slices.Concat(rightValues, wrongValues) {
				wantAsItIs(t, v, job{"write", place, value}, impl.CdBad)
			}
		}
		for _, place := range append([]int64{regions, regions + 1, -regions, sectors}, wrongNumbers...) {
			wantAsItIs(t, v, job{"step", place, 0}, impl.CdBad)
			wantAsItIs(t, v, job{"close", place, 0}, impl.CdBad)
		}
		for at := range sectors {
			wantJob(t, v, job{"read", at, 0}, job{"read", at, 0}.answeredByWords(v))
		}
	})
}

// TestNoValueIsWritten has -1 as well, which a touch takes, and which writes nothing here.
func TestNoValueIsWritten(t *testing.T) {
	eachVolume(64, func(_ *rand.Rand, v impl.Volume) {
		for at := range int64(len(v.Cells)) {
			for _, value := range wrongValues {
				wantAsItIs(t, v, job{"write", at, value}, impl.CdBad)
			}
			wantJob(t, v, job{"write", at, 0}, job{"write", at, 0}.answeredByWords(v))
			wantJob(t, v, job{"write", at, impl.ValueMod - 1}, job{"write", at, impl.ValueMod - 1}.answeredByWords(v))
		}
	})
	v := impl.Formatted(planOf(9, 3, 2))
	v.Trusts[0].Failed, v.Trusts[1].Clock = true, impl.MaxTime
	wantAsItIs(t, v, job{"write", 0, -1}, impl.CdBad)
	wantAsItIs(t, v, job{"write", 4, impl.ValueMod}, impl.CdBad)
}

// TestVolumesOfAnyNumbers holds all calls against the chapter's words, of Volumes that are right or nearly so, at places that are there or nearly so.
func TestVolumesOfAnyNumbers(t *testing.T) {
	draw := rand.New(rand.NewSource(65))
	counts := map[int64]int{}
	for range 20000 {
		known := knownPlans[draw.Intn(len(knownPlans))]
		v := anyVolume(draw, planOf(draw.Int63n(impl.MaxKey)+1, known.counts...))
		wantVolumeOk(t, v, volumeByWords(v))
		for _, kind := range jobKinds {
			j := job{kind, draw.Int63n(int64(len(known.regions))), anyNumber(draw, impl.ValueMod-1)}
			if kind == "step" || kind == "close" {
				j.place = known.regions[j.place]
			}
			if draw.Intn(8) == 0 {
				j.place = anyNumber(draw, int64(len(known.regions)))
			}
			want := j.answeredByWords(v)
			wantJob(t, v, j, want)
			wantVolumeOk(t, want.volume, len(want.volume.Slots) != 0)
			counts[want.code]++
		}
		if t.Failed() {
			t.FailNow()
		}
	}
	for code := range int64(6) {
		if counts[code] < 500 {
			t.Fatal(counts)
		}
	}
}

// anyVolume draws one that nearly always is right, and that some calls have been done with.
func anyVolume(draw *rand.Rand, p impl.Plan) impl.Volume {
	v := drawnVolume(draw, p)
	if draw.Intn(2) == 0 {
		v = impl.Formatted(p)
		for range draw.Intn(10) {
			v, _ = impl.StepIn(v, draw.Int63n(int64(len(p.Counts))))
			v, _ = impl.WriteIn(v, draw.Int63n(int64(len(v.Cells))), draw.Int63n(impl.ValueMod))
		}
	}
	region, at := draw.Intn(len(p.Counts)), draw.Intn(len(v.Cells))
	x := &v.Trusts[region]
	switch draw.Intn(16) {
	case 0:
		x.Clock = impl.MaxTime - draw.Int63n(4)
	case 1:
		x.Epoch = impl.MaxEpoch - draw.Int63n(2)
	case 2:
		*x = anyTrust(draw, p.Counts[region])
	case 3:
		v.Cells[at].Value = anyNumber(draw, impl.ValueMod-1)
	case 4:
		v.Cells[at].Time = min(max(x.Clock+draw.Int63n(5)-2, 0), impl.MaxTime)
	case 5:
		v.Count = anyNumber(draw, impl.MaxCount)
	case 6:
		v.Slots[draw.Intn(2)] = anySlot(draw, p)
	case 7:
		broken := brokenVolumes(v)
		return broken[draw.Intn(len(broken))]
	}
	return v
}

// view is one list with all the room behind it, as it was when the view was taken.
type view struct {
	name  string
	same  func() bool
	spoil func()
}

func viewOf[E any](name string, list []E, same func(a, b E) bool, other E) view {
	whole := list[:cap(list)]
	kept := slices.Clone(whole)
	return view{name, func() bool { return slices.EqualFunc(whole, kept, same) }, func() {
		for i := range whole {
			whole[i] = other
		}
	}}
}

func alikeTo[E comparable](a, b E) bool {
	return a == b
}

// viewsOf are those of all lists of a Volume. That of the Slots tells nothing of the lists within them, which have views of their own.
func viewsOf(v impl.Volume) []view {
	sameNumbers := func(a, b impl.Slot) bool {
		return a.Seal.Count == b.Seal.Count && a.Seal.Mac == b.Seal.Mac && len(a.Seal.Trusts) == len(b.Seal.Trusts) && len(a.Cells) == len(b.Cells)
	}
	list := []view{
		viewOf("Counts", v.Plan.Counts, alikeTo, -7),
		viewOf("Trusts", v.Trusts, alikeTo, impl.Trust{Clock: -7}),
		viewOf("Cells", v.Cells, alikeTo, impl.Cell{Time: -7}),
	}
	for _, s := range v.Slots[:cap(v.Slots)] {
		list = append(list, viewOf("a Slot's Trusts", s.Seal.Trusts, alikeTo, impl.Trust{Clock: -7}), viewOf("a Slot's Cells", s.Cells, alikeTo, impl.Cell{Time: -7}))
	}
	return append(list, viewOf("Slots", v.Slots, sameNumbers, impl.Slot{Seal: impl.Seal{Count: -7, Mac: -7}}))
}

// wantApart asks that the Volume which is answered shares no memory with those lists, and that no two of its own share any; its lists are spoilt by that.
func wantApart(t *testing.T, given []view, answered impl.Volume) {
	t.Helper()
	views := viewsOf(answered)
	for i, spoilt := range views {
		spoilt.spoil()
		for _, other := range slices.Concat(given, views[i+1:]) {
			if !other.same() {
				t.Errorf("%s that came in, or is answered, has changed with %s of the answer", other.name, spoilt.name)
			}
		}
	}
}

// roomy has spare room with something in it behind each list, also where the list is empty.
func roomy(v impl.Volume) impl.Volume {
	v = clonedVolume(v)
	v.Plan.Counts = withRoom(v.Plan.Counts, 1)
	v.Trusts = withRoom(v.Trusts, impl.Trust{Clock: 3})
	v.Cells = withRoom(v.Cells, impl.Cell{Time: 3})
	for i := range v.Slots {
		s := &v.Slots[i]
		s.Seal.Trusts, s.Cells = withRoom(s.Seal.Trusts, impl.Trust{Clock: 3}), withRoom(s.Cells, impl.Cell{Time: 3})
	}
	v.Slots = withRoom(v.Slots, impl.Slot{Seal: impl.Seal{Count: 3, Trusts: make([]impl.Trust, 2)}, Cells: make([]impl.Cell, 2)})
	return v
}

func withRoom[E any](list []E, with E) []E {
	return append(slices.Clone(list), with, with, with)[:len(list)]
}

// jobsOfAllCodes are right ones, and those that leave a Volume as it is.
func jobsOfAllCodes(v impl.Volume) []job {
	var list []job
	for region := range v.Trusts {
		list = append(list, someJobs(int64(region))...)
	}
	return append(list, slices.Concat(someJobs(-1), someJobs(24), []job{{"write", 0, -1}, {"write", 0, impl.ValueMod}})...)
}

// TestVolumesAreApart has Volumes with spare room, right and not, and all kinds of calls: nothing is written into what came in, and nothing is shared with it.
func TestVolumesAreApart(t *testing.T) {
	eachVolume(66, func(_ *rand.Rand, right impl.Volume) {
		wrong := clonedVolume(right)
		wrong.Count = -1
		for _, v := range []impl.Volume{right, wrong} {
			v = roomy(v)
			given := viewsOf(v)
			impl.VolumeOk(v)
			for _, j := range jobsOfAllCodes(v) {
				got := j.answered(v)
				wantApart(t, given, got.volume)
			}
		}
	})
}

// TestVolumesWhoseListsAreOne has a Volume that came in with one list for all Cells and one for all Trusts.
func TestVolumesWhoseListsAreOne(t *testing.T) {
	for _, known := range knownPlans {
		v := impl.Formatted(planOf(9, known.counts...))
		for i := range v.Slots {
			v.Slots[i].Cells, v.Slots[i].Seal.Trusts = v.Cells, v.Trusts
		}
		given := viewsOf(v)
		for _, j := range jobsOfAllCodes(v) {
			wantJob(t, v, j, j.answeredByWords(v))
			wantApart(t, given, j.answered(v).volume)
		}
	}
}

func TestWhatIsFormattedIsApart(t *testing.T) {
	for _, known := range knownPlans {
		p := planOf(9, withRoom(known.counts, 1)...)
		counts := viewOf("Counts of the plan", p.Counts, alikeTo, -7)
		wantApart(t, []view{counts}, impl.Formatted(p))
		other := impl.Formatted(p)
		wantApart(t, append(viewsOf(other), counts), impl.Formatted(p))
		if !sameVolume(other, impl.Formatted(p)) {
			t.Errorf("Formatted(%v) was %+v", p, other)
		}
	}
}

// TestVolumesKeepNothing has the same answers after others, which were refused, caught or given up.
func TestVolumesKeepNothing(t *testing.T) {
	v := impl.Formatted(planOf(9, 3, 2))
	failed := clonedVolume(v)
	failed.Trusts[0].Failed = true
	late := clonedVolume(v)
	late.Cells[0].Time = impl.MaxTime
	for range 3 {
		for _, j := range someJobs(0) {
			wantJob(t, v, j, j.answeredByWords(v))
			wantAsItIs(t, failed, j, impl.CdFailed)
			wantJob(t, late, j, j.answeredByWords(late))
		}
		for _, j := range someJobs(-1) {
			wantAsItIs(t, v, j, impl.CdBad)
		}
		for _, broken := range brokenVolumes(v) {
			wantNoVolume(t, broken)
		}
		wantFormatted(t, planOf(9, 3, 2))
	}
}
