package tests

import (
	"math"
	"math/rand"
	"testing"

	"loop.example/g00775/impl"
)

// knownTags are a key and a triple each, with the tag, as another program found it.
var knownTags = []struct {
	key    int64
	triple impl.Triple
	tag    int64
}{
	{1, impl.Triple{At: 0, Time: 0, Value: 0}, 462304453910648377},
	{9, impl.Triple{At: 3, Time: 7, Value: 44}, 910201179083010125},
	{77, impl.Triple{At: 23, Time: 100000, Value: 10006}, 2439411548777187497},
	{impl.MaxKey, impl.Triple{At: 0, Time: 0, Value: 0}, 809340905244864826},
	{impl.MaxKey, impl.Triple{At: 23, Time: 100000, Value: 10006}, 838342047007504951},
	{1, impl.Triple{At: 23, Time: 0, Value: 0}, 463152072149396608},
	{1, impl.Triple{At: 0, Time: 100000, Value: 0}, 490436489713148377},
	{1, impl.Triple{At: 0, Time: 0, Value: 10006}, 462325941632040271},
	{2, impl.Triple{At: 11, Time: 268, Value: 5000}, 1095229733210109674},
	{500000, impl.Triple{At: 1, Time: 2, Value: 3}, 2625486228146848373},
}

var (
	rightAts   = []int64{0, 1, 11, 22, 23}
	wrongAts   = []int64{math.MinInt64, -24, -2, -1, 24, 25, 2147483647, math.MaxInt64}
	rightTimes = []int64{0, 1, 2, 50000, 99999, 100000}
	wrongTimes = []int64{math.MinInt64, -100000, -2, -1, 100001, 100002, 2147483647, math.MaxInt64}
)

// oneFieldWrong are the triples that a single field keeps from being right, whatever the two others are.
func oneFieldWrong() []impl.Triple {
	var list []impl.Triple
	for _, time := range rightTimes {
		for _, value := range rightValues {
			for _, at := range wrongAts {
				list = append(list, impl.Triple{At: at, Time: time, Value: value})
			}
		}
		for _, at := range rightAts {
			for _, value := range wrongValues {
				list = append(list, impl.Triple{At: at, Time: time, Value: value})
			}
		}
	}
	for _, time := range wrongTimes {
		for _, at := range rightAts {
			for _, value := range rightValues {
				list = append(list, impl.Triple{At: at, Time: time, Value: value})
			}
		}
	}
	return list
}

func edgeTriples() []impl.Triple {
	var list []impl.Triple
	for _, at := range rightAts {
		for _, time := range rightTimes {
			for _, value := range rightValues {
				list = append(list, impl.Triple{At: at, Time: time, Value: value})
			}
		}
	}
	return list
}

func wantTag(t *testing.T, key int64, triple impl.Triple, want int64) {
	t.Helper()
	if got := impl.TagOf(key, triple); got != want {
		t.Errorf("TagOf(%d, %v) = %d, want %d", key, triple, got, want)
	}
}

func wantTripleOk(t *testing.T, triple impl.Triple, want bool) {
	t.Helper()
	if got := impl.TripleOk(triple); got != want {
		t.Errorf("TripleOk(%v) = %t, want %t", triple, got, want)
	}
}

// tagBook keeps which triple has which tag of one key.
type tagBook struct {
	key    int64
	owners map[int64]impl.Triple
}

func newTagBook(key int64) tagBook {
	return tagBook{key: key, owners: map[int64]impl.Triple{}}
}

// wantOwn fails where the tag of a right triple is none, or is that of another triple too.
func (b tagBook) wantOwn(t *testing.T, triple impl.Triple) {
	t.Helper()
	tag := impl.TagOf(b.key, triple)
	if tag < 0 || tag >= impl.MixMod {
		t.Fatalf("TagOf(%d, %v) = %d is not one that AddOf takes", b.key, triple, tag)
	}
	if owner, taken := b.owners[tag]; taken && owner != triple {
		t.Fatalf("with the key %d both %v and %v have the tag %d", b.key, owner, triple, tag)
	}
	b.owners[tag] = triple
}

func TestTripleConstants(t *testing.T) {
	if impl.MaxSectors != 24 || impl.MaxTime != 100000 {
		t.Fatal(impl.MaxSectors, impl.MaxTime)
	}
}

func TestTripleOkEdges(t *testing.T) {
	for _, triple := range edgeTriples() {
		wantTripleOk(t, triple, true)
	}
	for _, triple := range oneFieldWrong() {
		wantTripleOk(t, triple, false)
	}
	for at := int64(-3); at <= impl.MaxSectors+3; at++ {
		wantTripleOk(t, impl.Triple{At: at}, at >= 0 && at <= 23)
	}
}

func TestTripleOkWithMoreFieldsWrong(t *testing.T) {
	for _, at := range wrongAts {
		for _, time := range wrongTimes {
			for _, value := range wrongValues {
				wantTripleOk(t, impl.Triple{At: at, Time: time, Value: value}, false)
				wantTag(t, 9, impl.Triple{At: at, Time: time, Value: value}, -1)
			}
		}
	}
}

func TestTagOfByHand(t *testing.T) {
	upper := ((((int64(131*8+3)*131+1)*131+1)*131 + 1) % 2147483647) * 2147483648
	lower := (((int64(137*13+3)*137+1)*137+1)*137 + 1) % 2147483629
	wantTag(t, 1, impl.Triple{}, upper+lower)
	for _, known := range knownTags {
		wantTag(t, known.key, known.triple, known.tag)
	}
}

func TestTagOfEdges(t *testing.T) {
	for _, key := range rightKeys {
		for _, triple := range edgeTriples() {
			list := []int64{2, triple.At, triple.Time, triple.Value}
			wantTag(t, key, triple, bigMix(key, list))
			wantTag(t, key, triple, impl.MixOf(key, list))
		}
	}
}

func TestTagOfNoKey(t *testing.T) {
	for _, key := range wrongKeys {
		for _, triple := range edgeTriples() {
			wantTag(t, key, triple, -1)
		}
		for _, triple := range oneFieldWrong() {
			wantTag(t, key, triple, -1)
		}
	}
}

func TestTagOfWrongTriple(t *testing.T) {
	for _, key := range rightKeys {
		for _, triple := range oneFieldWrong() {
			wantTag(t, key, triple, -1)
		}
	}
}

func TestTagOfKeepsNothing(t *testing.T) {
	triple := impl.Triple{At: 3, Time: 7, Value: 44}
	for range 3 {
		wantTag(t, 9, triple, 910201179083010125)
		wantTag(t, 0, triple, -1)
		wantTag(t, 10, triple, bigMix(10, []int64{2, 3, 7, 44}))
		wantTag(t, 9, impl.Triple{At: 24, Time: 7, Value: 44}, -1)
	}
}

// TestUnlikeTriplesHaveOtherTags is promise 3, of all places and some whole neighbourhoods of times and values, at both ends.
func TestUnlikeTriplesHaveOtherTags(t *testing.T) {
	for _, key := range []int64{1, 77, impl.MaxKey} {
		book := newTagBook(key)
		for at := range int64(impl.MaxSectors) {
			for step := range int64(40) {
				for pace := range int64(40) {
					book.wantOwn(t, impl.Triple{At: at, Time: step, Value: pace})
					book.wantOwn(t, impl.Triple{At: at, Time: impl.MaxTime - step, Value: impl.ValueMod - 1 - pace})
				}
			}
		}
	}
}

// TestUnlikeTriplesInOneFieldHaveOtherTags is promise 3, of every time and every value there is.
func TestUnlikeTriplesInOneFieldHaveOtherTags(t *testing.T) {
	for _, at := range []int64{0, 23} {
		book := newTagBook(9)
		for time := range int64(impl.MaxTime + 1) {
			book.wantOwn(t, impl.Triple{At: at, Time: time, Value: 5})
		}
		for value := range int64(impl.ValueMod) {
			book.wantOwn(t, impl.Triple{At: at, Time: 5, Value: value})
		}
	}
}

// TestTriplesThatOneSumMistakesHaveOtherTags is promise 3, of triples that one of the two sums of a mixing cannot tell apart: there a step in At or Time is as much as its factor in the next field.
func TestTriplesThatOneSumMistakesHaveOtherTags(t *testing.T) {
	for _, factor := range []int64{131, 137} {
		book := newTagBook(1)
		for at := range int64(impl.MaxSectors) {
			for step := int64(0); factor*step < impl.ValueMod; step++ {
				time := 5000 - factor*at - step
				book.wantOwn(t, impl.Triple{At: at, Time: time, Value: factor * step})
			}
		}
	}
}

func TestUnlikeTriplesAnywhereHaveOtherTags(t *testing.T) {
	draw := rand.New(rand.NewSource(4))
	book := newTagBook(draw.Int63n(impl.MaxKey) + 1)
	for range 200000 {
		book.wantOwn(t, impl.Triple{
			At:    draw.Int63n(impl.MaxSectors),
			Time:  draw.Int63n(impl.MaxTime + 1),
			Value: draw.Int63n(impl.ValueMod),
		})
	}
}
