package tests

import (
	"math"
	"math/rand"
	"testing"

	"loop.example/g00775/impl"
)

// streamPlaces are a key, an at and a time each, with the stream there, as another program found it.
var streamPlaces = []struct{ key, at, time, stream int64 }{
	{1, 0, 0, 8014},
	{2, 0, 0, 7077},
	{1, 1, 0, 9540},
	{1, 0, 1, 9477},
	{9, 4, 30, 477},
	{77, 3, 5, 8737},
	{2, 1, 42, 0},
	{16, 3, 1, 0},
	{10, 15, 12, 10006},
	{17, 3, 29, 10006},
	{impl.MaxKey, 0, 0, 7966},
	{1, math.MaxInt64, 0, 8110},
	{1, 0, math.MaxInt64, 190},
	{impl.MaxKey, math.MaxInt64, math.MaxInt64, 238},
}

var (
	rightKeys   = []int64{1, 2, 77, impl.MaxKey - 1, impl.MaxKey}
	wrongKeys   = []int64{math.MinInt64, -impl.MaxKey, -1, 0, impl.MaxKey + 1, math.MaxInt64}
	rightPlaces = []int64{0, 1, 23, 24, 100000, 100001, 2147483629, 2147483647, math.MaxInt64 - 1, math.MaxInt64}
	wrongPlaces = []int64{-1, -2, -impl.ValueMod, -2147483647, math.MinInt64}
	rightValues = []int64{0, 1, 2, impl.ValueMod / 2, impl.ValueMod - 2, impl.ValueMod - 1}
	wrongValues = []int64{math.MinInt64, -impl.ValueMod, -2, -1, impl.ValueMod, impl.ValueMod + 1, 2 * impl.ValueMod, math.MaxInt64}
)

func bigStream(key, at, time int64) int64 {
	return bigMix(key, []int64{1, at, time}) % 10007
}

func wantStream(t *testing.T, key, at, time, want int64) {
	t.Helper()
	if got := impl.StreamOf(key, at, time); got != want {
		t.Errorf("StreamOf(%d, %d, %d) = %d, want %d", key, at, time, got, want)
	}
}

func wantHidden(t *testing.T, key, at, time, value, want int64) {
	t.Helper()
	if got := impl.Hidden(key, at, time, value); got != want {
		t.Errorf("Hidden(%d, %d, %d, %d) = %d, want %d", key, at, time, value, got, want)
	}
}

func wantShown(t *testing.T, key, at, time, value, want int64) {
	t.Helper()
	if got := impl.Shown(key, at, time, value); got != want {
		t.Errorf("Shown(%d, %d, %d, %d) = %d, want %d", key, at, time, value, got, want)
	}
}

// wantBothWays asks for the value hidden under a stream that is known, and for the way back.
func wantBothWays(t *testing.T, key, at, time, value, stream int64) {
	t.Helper()
	hidden := (value + stream) % 10007
	wantHidden(t, key, at, time, value, hidden)
	wantShown(t, key, at, time, hidden, value)
}

func wantNeitherWay(t *testing.T, key, at, time, value int64) {
	t.Helper()
	wantHidden(t, key, at, time, value, -1)
	wantShown(t, key, at, time, value, -1)
}

func TestStreamConstants(t *testing.T) {
	if impl.ValueMod != 10007 {
		t.Fatal(impl.ValueMod)
	}
}

func TestStreamOfByHand(t *testing.T) {
	wantStream(t, 1, 0, 0, ((((131*8+2)*131+1)*131+1)*2147483648+((137*13+2)*137+1)*137+1)%10007)
	wantStream(t, 1, 2, 5, ((((131*8+2)*131+3)*131+6)*2147483648+((137*13+2)*137+3)*137+6)%10007)
	for _, p := range streamPlaces {
		wantStream(t, p.key, p.at, p.time, p.stream)
	}
}

func TestStreamOfEdges(t *testing.T) {
	for _, key := range rightKeys {
		for _, at := range rightPlaces {
			for _, time := range rightPlaces {
				wantStream(t, key, at, time, bigStream(key, at, time))
			}
		}
	}
}

func TestStreamOfTellsItsArgumentsApart(t *testing.T) {
	if impl.StreamOf(1, 3, 5) == impl.StreamOf(1, 5, 3) {
		t.Error("a stream does not tell the sector 3 at 5 from the sector 5 at 3")
	}
	if impl.StreamOf(3, 1, 5) == impl.StreamOf(1, 3, 5) {
		t.Error("a stream does not tell the key 3 from the key 1")
	}
}

func TestHiddenAndShownByHand(t *testing.T) {
	wantHidden(t, 9, 4, 30, 0, 477)
	wantHidden(t, 9, 4, 30, 9529, 10006)
	wantHidden(t, 9, 4, 30, 9530, 0)
	wantHidden(t, 9, 4, 30, 10006, 476)
	wantShown(t, 9, 4, 30, 477, 0)
	wantShown(t, 9, 4, 30, 10006, 9529)
	wantShown(t, 9, 4, 30, 0, 9530)
	wantShown(t, 9, 4, 30, 476, 10006)
	for _, p := range streamPlaces {
		for _, value := range rightValues {
			wantBothWays(t, p.key, p.at, p.time, value, p.stream)
		}
	}
}

func TestHiddenAndShownEdges(t *testing.T) {
	for _, key := range rightKeys {
		for _, at := range rightPlaces {
			for _, time := range rightPlaces {
				stream := bigStream(key, at, time)
				for _, value := range rightValues {
					wantBothWays(t, key, at, time, value, stream)
				}
			}
		}
	}
}

// TestWhatIsHiddenIsShown is promise 2, of every value there is: each way undoes the other, so no two values are hidden alike.
func TestWhatIsHiddenIsShown(t *testing.T) {
	for _, p := range streamPlaces {
		for value := range int64(impl.ValueMod) {
			hidden := impl.Hidden(p.key, p.at, p.time, value)
			if hidden < 0 || hidden >= impl.ValueMod {
				t.Fatalf("at %v %d is hidden as %d, which is no value", p, value, hidden)
			}
			wantShown(t, p.key, p.at, p.time, hidden, value)
			wantHidden(t, p.key, p.at, p.time, impl.Shown(p.key, p.at, p.time, value), value)
			if t.Failed() {
				t.FailNow()
			}
		}
	}
}

func TestWhatIsHiddenIsShownAnywhere(t *testing.T) {
	draw := rand.New(rand.NewSource(3))
	for range 20000 {
		key := draw.Int63n(impl.MaxKey) + 1
		at := draw.Int63() >> uint(draw.Intn(63))
		time := draw.Int63() >> uint(draw.Intn(63))
		stream := bigStream(key, at, time)
		wantStream(t, key, at, time, stream)
		wantBothWays(t, key, at, time, draw.Int63n(impl.ValueMod), stream)
		if t.Failed() {
			t.FailNow()
		}
	}
}

func TestStreamsOfNoKey(t *testing.T) {
	for _, key := range wrongKeys {
		for _, place := range rightPlaces {
			wantStream(t, key, place, place, -1)
			for _, value := range rightValues {
				wantNeitherWay(t, key, place, place, value)
			}
		}
	}
}

func TestStreamsBelowZero(t *testing.T) {
	for _, key := range rightKeys {
		for _, wrong := range wrongPlaces {
			for _, right := range rightPlaces {
				wantStream(t, key, wrong, right, -1)
				wantStream(t, key, right, wrong, -1)
				for _, value := range rightValues {
					wantNeitherWay(t, key, wrong, right, value)
					wantNeitherWay(t, key, right, wrong, value)
				}
			}
			wantStream(t, key, wrong, wrong, -1)
			wantNeitherWay(t, key, wrong, wrong, 0)
		}
	}
}

func TestStreamsOfNoValue(t *testing.T) {
	for _, value := range wrongValues {
		for _, p := range streamPlaces {
			wantNeitherWay(t, p.key, p.at, p.time, value)
		}
		for _, key := range wrongKeys {
			wantNeitherWay(t, key, 0, 0, value)
			wantNeitherWay(t, key, -1, -1, value)
		}
	}
}
