package impl

const MaxKey = 1000000
const MixMod = 4611686018427387904

const (
	upperFactor  = 131
	upperModulus = 2147483647
	lowerFactor  = 137
	lowerModulus = 2147483629
	upperPlace   = 2147483648
)

// wide lists the types in which a factor times a remainder, and one more remainder, does not overflow.
type wide interface {
	~int64 | ~uint64
}

func MixOf(key int64, list []int64) int64 {
	return mixed(key, list...)
}

func AddOf(a int64, b int64) int64 {
	if !isSum(a) || !isSum(b) {
		return -1
	}
	// Two sums are less than 2 to the 63rd together, so they do not overflow.
	return (a + b) % MixMod
}

// mixed takes its numbers one by one, so that the layers above need not build a list of the few that they mix.
func mixed(key int64, numbers ...int64) int64 {
	if !isKey(key) || anyNegative(numbers) {
		return -1
	}
	upper := rolled(7+key, upperFactor, upperModulus, numbers)
	lower := rolled(11+2*key, lowerFactor, lowerModulus, numbers)
	return upper*upperPlace + lower
}

// rolled reduces each number before it is added, as the greatest int64 would overflow otherwise.
func rolled[N wide](start N, factor N, modulus N, numbers []N) N {
	sum := start
	for _, n := range numbers {
		sum = (sum*factor + n%modulus + 1) % modulus
	}
	return sum
}

func isKey(key int64) bool {
	return key >= 1 && key <= MaxKey
}

func isSum(sum int64) bool {
	return sum >= 0 && sum < MixMod
}

func anyNegative(numbers []int64) bool {
	for _, n := range numbers {
		if n < 0 {
			return true
		}
	}
	return false
}
