package tests

import (
	"cmp"
	"fmt"
	"math"
	"math/big"
	"slices"
	"testing"

	"loop.example/g01241/impl"
)

func pair(drive int, follow int) impl.Pair {
	return impl.Pair{Drive: drive, Follow: follow}
}

// train has a Drive and a Follow in turn.
func train(teeth ...int) []impl.Pair {
	list := []impl.Pair{}
	for two := range slices.Chunk(teeth, 2) {
		list = append(list, pair(two[0], two[1]))
	}
	return list
}

// noTeeth are numbers of teeth that no wheel has.
var noTeeth = []int{math.MinInt, -10, -1, 0, 5, 121, 1000, math.MaxInt}

// noTerms are numbers that no num and no den is.
var noTerms = []int{math.MinInt, -2, -1, 0, 1001, 1000000, math.MaxInt}

func noPairs() []impl.Pair {
	list := []impl.Pair{{}, pair(5, 5), pair(121, 121)}
	for _, teeth := range noTeeth {
		list = append(list, pair(teeth, 10), pair(10, teeth), pair(teeth, teeth))
	}
	return list
}

func noTrains() [][]impl.Pair {
	list := [][]impl.Pair{train(6, 6, 6, 6, 6, 6, 6, 6, 6, 6), slices.Repeat(train(10, 30), 1000)}
	for _, p := range noPairs() {
		list = append(list, []impl.Pair{p})
		for place := range impl.MaxPairs {
			list = append(list, slices.Replace(train(10, 30, 12, 48, 7, 11, 120, 6), place, place+1, p))
		}
	}
	return list
}

var somePairs = []impl.Pair{
	{Drive: 6, Follow: 6}, {Drive: 6, Follow: 120}, {Drive: 120, Follow: 6}, {Drive: 120, Follow: 120}, {Drive: 10, Follow: 30}, {Drive: 12, Follow: 48},
	{Drive: 7, Follow: 11}, {Drive: 113, Follow: 119}, {Drive: 64, Follow: 81}, {Drive: 81, Follow: 64}, {Drive: 90, Follow: 8}, {Drive: 105, Follow: 100},
}

// someTrains are trains of no pair, and of as many as there may be.
func someTrains() [][]impl.Pair {
	list := [][]impl.Pair{nil, {}, slices.Repeat(train(6, 120), 4), slices.Repeat(train(120, 6), 4), slices.Repeat(train(119, 113), 4)}
	for i, a := range somePairs {
		list = append(list, []impl.Pair{a})
		for j, b := range somePairs {
			c, d := somePairs[(i+5*j+1)%len(somePairs)], somePairs[(7*i+j+2)%len(somePairs)]
			list = append(list, []impl.Pair{a, b}, []impl.Pair{a, b, c}, []impl.Pair{a, b, c, d})
		}
	}
	return list
}

func ratOfPair(p impl.Pair) *big.Rat {
	return big.NewRat(int64(p.Drive), int64(p.Follow))
}

// axlesOf tells for each axle behind the first one how many turns it makes, with the direction, while the first one makes one.
func axlesOf(train []impl.Pair) []*big.Rat {
	var axles []*big.Rat
	turns := big.NewRat(1, 1)
	for _, p := range train {
		turns = new(big.Rat).Neg(new(big.Rat).Mul(turns, ratOfPair(p)))
		axles = append(axles, turns)
	}
	return axles
}

// lastAxle tells this for the last axle, which is the first one if there is no pair.
func lastAxle(train []impl.Pair) *big.Rat {
	axles := append([]*big.Rat{big.NewRat(1, 1)}, axlesOf(train)...)
	return axles[len(axles)-1]
}

func wantFraction(t *testing.T, what string, num int, den int, ok bool, r *big.Rat) {
	t.Helper()
	wantTwo(t, what, num, den, ok, int(r.Num().Int64()), int(r.Denom().Int64()), true)
}

func teethOf(train []impl.Pair) int {
	teeth := 0
	for _, p := range train {
		teeth += p.Drive + p.Follow
	}
	return teeth
}

func TestConstantsOfGears(t *testing.T) {
	if impl.MinTeeth != 6 || impl.MaxTeeth != 120 || impl.MaxPairs != 4 {
		t.Error("constants", impl.MinTeeth, impl.MaxTeeth, impl.MaxPairs)
	}
}

func TestIsPair(t *testing.T) {
	for drive := impl.MinTeeth; drive <= impl.MaxTeeth; drive++ {
		for follow := impl.MinTeeth; follow <= impl.MaxTeeth; follow++ {
			if !impl.IsPair(pair(drive, follow)) {
				t.Errorf("%d, %d is a pair", drive, follow)
			}
		}
	}
	for _, p := range noPairs() {
		if impl.IsPair(p) {
			t.Errorf("%v is no pair", p)
		}
	}
}

func TestIsTrain(t *testing.T) {
	for _, list := range someTrains() {
		if !impl.IsTrain(list) {
			t.Errorf("%v is a train", list)
		}
	}
	for _, list := range noTrains() {
		if impl.IsTrain(list) {
			t.Errorf("%v is no train", list)
		}
	}
}

func TestRatioOf(t *testing.T) {
	for _, list := range someTrains() {
		num, den, ok := impl.RatioOf(list)
		wantFraction(t, fmt.Sprint("RatioOf ", list), num, den, ok, new(big.Rat).Abs(lastAxle(list)))
	}
	for _, p := range somePairs {
		num, den, ok := impl.RatioOf([]impl.Pair{p})
		wantFraction(t, fmt.Sprint("RatioOf ", p), num, den, ok, ratOfPair(p))
	}
	for _, c := range []struct {
		train    []impl.Pair
		num, den int
	}{
		{nil, 1, 1},
		{train(), 1, 1},
		{train(10, 30), 1, 3},
		{train(30, 10), 3, 1},
		{train(6, 120, 6, 120, 6, 120, 6, 120), 1, 160000},
		{train(120, 6, 120, 6, 120, 6, 120, 6), 160000, 1},
		{train(113, 119, 113, 119, 113, 119, 113, 119), 163047361, 200533921},
		{train(7, 120, 120, 7), 1, 1},
		{train(64, 81, 90, 8), 80, 9},
	} {
		num, den, ok := impl.RatioOf(c.train)
		wantTwo(t, fmt.Sprint("RatioOf ", c.train), num, den, ok, c.num, c.den, true)
	}
}

// TestRatiosAreProducts puts two trains one behind the other.
func TestRatiosAreProducts(t *testing.T) {
	for _, a := range someTrains() {
		for _, b := range [][]impl.Pair{nil, train(64, 81), train(6, 120, 119, 7)} {
			together := slices.Concat(a, b)
			if len(together) > impl.MaxPairs {
				continue
			}
			numA, denA, okA := impl.RatioOf(a)
			numB, denB, okB := impl.RatioOf(b)
			if !okA || !okB {
				t.Errorf("%v and %v have no ratios", a, b)
				continue
			}
			num, den, ok := impl.RatioOf(together)
			wantFraction(t, fmt.Sprint("RatioOf ", together), num, den, ok, big.NewRat(int64(numA*numB), int64(denA*denB)))
		}
	}
}

func TestTurnsOfLast(t *testing.T) {
	for _, list := range someTrains() {
		for _, turns := range []int{-1000, -999, -81, -12, -1, 0, 1, 2, 30, 77, 119, 999, 1000} {
			num, den, ok := impl.TurnsOfLast(list, turns)
			wantFraction(t, fmt.Sprintf("TurnsOfLast %v %d", list, turns), num, den, ok, timesRat(lastAxle(list), turns))
		}
		for _, turns := range []int{math.MinInt, -1001, 1001, math.MaxInt} {
			num, den, ok := impl.TurnsOfLast(list, turns)
			wantTwo(t, fmt.Sprintf("TurnsOfLast %v %d", list, turns), num, den, ok, 0, 0, false)
		}
	}
	for _, c := range []struct {
		train           []impl.Pair
		turns, num, den int
	}{
		{nil, 7, 7, 1},
		{nil, -1000, -1000, 1},
		{nil, 0, 0, 1},
		{train(10, 30), 1, -1, 3},
		{train(10, 30), -1, 1, 3},
		{train(10, 30), 6, -2, 1},
		{train(10, 30), 0, 0, 1},
		{train(10, 30, 12, 48), 9, 3, 4},
		{train(10, 30, 12, 48), -9, -3, 4},
		{train(120, 6, 120, 6, 120, 6, 120, 6), 1000, 160000000, 1},
		{train(120, 6, 120, 6, 120, 6, 6, 120), -1000, -400000, 1},
		{train(120, 6, 120, 6, 120, 6), 1000, -8000000, 1},
	} {
		num, den, ok := impl.TurnsOfLast(c.train, c.turns)
		wantTwo(t, fmt.Sprintf("TurnsOfLast %v %d", c.train, c.turns), num, den, ok, c.num, c.den, true)
	}
}

func TestDirectionOf(t *testing.T) {
	for pairs, want := range []int{1, -1, 1, -1, 1} {
		for _, p := range somePairs {
			n, ok := impl.DirectionOf(slices.Repeat([]impl.Pair{p}, pairs))
			wantResult(t, fmt.Sprintf("DirectionOf %d pairs %v", pairs, p), n, ok, want, true)
		}
	}
	for _, list := range someTrains() {
		n, ok := impl.DirectionOf(list)
		wantResult(t, fmt.Sprint("DirectionOf ", list), n, ok, lastAxle(list).Sign(), true)
	}
}

func TestBackTrain(t *testing.T) {
	for _, c := range [][2][]impl.Pair{
		{nil, nil},
		{train(), nil},
		{train(6, 120), train(120, 6)},
		{train(10, 30, 12, 48), train(48, 12, 30, 10)},
		{train(6, 7, 8, 9, 10, 11), train(11, 10, 9, 8, 7, 6)},
		{train(6, 7, 8, 9, 10, 11, 119, 120), train(120, 119, 11, 10, 9, 8, 7, 6)},
	} {
		back, ok := impl.BackTrain(c[0])
		wantList(t, fmt.Sprint("BackTrain ", c[0]), back, ok, c[1], true)
	}
	for _, list := range someTrains() {
		back, ok := impl.BackTrain(list)
		num, den, okRatio := impl.RatioOf(back)
		wantFraction(t, fmt.Sprint("RatioOf BackTrain ", list), num, den, ok && okRatio, new(big.Rat).Abs(new(big.Rat).Inv(lastAxle(list))))
		again, ok := impl.BackTrain(back)
		wantList(t, fmt.Sprint("BackTrain of BackTrain ", list), again, ok, list, true)
	}
}

// TestMeshesUntilSame turns the wheels by one tooth after the other until both are as at first.
func TestMeshesUntilSame(t *testing.T) {
	for drive := impl.MinTeeth; drive <= impl.MaxTeeth; drive++ {
		for _, follow := range []int{6, 7, 12, 15, 30, 64, 97, 119, 120, drive} {
			teeth := 1
			for teeth%drive != 0 || teeth%follow != 0 {
				teeth++
			}
			a, b, ok := impl.MeshesUntilSame(pair(drive, follow))
			wantTwo(t, fmt.Sprintf("MeshesUntilSame %d, %d", drive, follow), a, b, ok, teeth/drive, teeth/follow, true)
		}
	}
	for p, want := range map[impl.Pair][2]int{pair(10, 15): {3, 2}, pair(6, 120): {20, 1}, pair(120, 6): {1, 20}, pair(6, 6): {1, 1}, pair(120, 119): {119, 120}} {
		a, b, ok := impl.MeshesUntilSame(p)
		wantTwo(t, fmt.Sprint("MeshesUntilSame ", p), a, b, ok, want[0], want[1], true)
	}
}

// areAsAtFirst tells whether all axles are behind so many turns of the first one.
func areAsAtFirst(axles []*big.Rat, turns int) bool {
	return !slices.ContainsFunc(axles, func(axle *big.Rat) bool { return !timesRat(axle, turns).IsInt() })
}

func TestTurnsUntilSame(t *testing.T) {
	for _, list := range someTrains() {
		n, ok := impl.TurnsUntilSame(list)
		axles := axlesOf(list)
		if !ok || n < 1 || !areAsAtFirst(axles, n) {
			t.Errorf("TurnsUntilSame %v: %d, %v", list, n, ok)
			continue
		}
		// All numbers of turns that do are whole numbers of times the least one, so that a lesser one would be a part of this.
		for part := 2; part <= impl.MaxTeeth; part++ {
			if n%part == 0 && areAsAtFirst(axles, n/part) {
				t.Errorf("TurnsUntilSame %v: %d, but all axles are as at first behind %d", list, n, n/part)
			}
		}
	}
	for _, c := range []struct {
		train []impl.Pair
		want  int
	}{
		{nil, 1},
		{train(), 1},
		{train(6, 6), 1},
		{train(120, 6), 1},
		{train(6, 120), 20},
		{train(10, 15), 3},
		// The axle in between is not as at first when the last one is.
		{train(10, 30, 30, 10), 3},
		{train(10, 30, 60, 10), 3},
		{train(30, 10, 10, 30), 1},
		{train(6, 12, 6, 18, 36, 6), 6},
		{train(6, 8, 9, 6, 6, 10), 40},
		{train(12, 18, 12, 8), 3},
		{train(7, 120, 11, 119, 13, 113, 17, 109), 120 * 17 * 113 * 109},
		{train(6, 7, 6, 11, 6, 13, 6, 17), 17017},
		{train(119, 120, 119, 120, 119, 120, 119, 120), 207360000},
	} {
		n, ok := impl.TurnsUntilSame(c.train)
		wantResult(t, fmt.Sprint("TurnsUntilSame ", c.train), n, ok, c.want, true)
	}
}

// TestTurnsUntilSameOneByOne turns the first axle until all are as at first.
func TestTurnsUntilSameOneByOne(t *testing.T) {
	for _, list := range [][]impl.Pair{
		nil, train(6, 6), train(6, 7), train(9, 6), train(10, 30, 12, 48), train(10, 30, 48, 12), train(30, 10, 12, 48), train(6, 9, 6, 8, 12, 6), train(9, 15, 10, 12, 16, 6, 6, 7),
	} {
		turns := 1
		for !areAsAtFirst(axlesOf(list), turns) {
			turns++
		}
		n, ok := impl.TurnsUntilSame(list)
		wantResult(t, fmt.Sprint("TurnsUntilSame ", list), n, ok, turns, true)
	}
}

// pairsUpTo are all pairs, in order, with no wheel of more than most teeth.
func pairsUpTo(most int) []impl.Pair {
	var list []impl.Pair
	for drive := impl.MinTeeth; drive <= most; drive++ {
		for follow := impl.MinTeeth; follow <= most; follow++ {
			list = append(list, pair(drive, follow))
		}
	}
	return list
}

func TestFirstPair(t *testing.T) {
	for _, most := range []int{6, 7, 12, 30, 59, 60, 119, 120} {
		pairs := pairsUpTo(most)
		for num := 1; num <= 1000; num = num*5/4 + 1 {
			for _, den := range []int{1, 2, 3, 5, 6, 12, 19, 20, 21, 60, 97, 113, 119, 120, 121, 360, 840, 999, 1000, num} {
				found := slices.IndexFunc(pairs, func(p impl.Pair) bool { return p.Drive*den == p.Follow*num })
				want := impl.Pair{}
				if found >= 0 {
					want = pairs[found]
				}
				p, ok := impl.FirstPair(num, den, most)
				wantResult(t, fmt.Sprintf("FirstPair %d / %d of %d", num, den, most), p, ok, want, found >= 0)
			}
		}
	}
	for _, c := range []struct {
		num, den, most int
		want           impl.Pair
	}{
		{2, 3, 30, pair(6, 9)},
		{2, 3, 9, pair(6, 9)},
		{2, 3, 8, impl.Pair{}},
		{4, 6, 9, pair(6, 9)},
		{1, 1, 6, pair(6, 6)},
		{1000, 1000, 6, pair(6, 6)},
		{1, 20, 120, pair(6, 120)},
		{1, 20, 119, impl.Pair{}},
		{20, 1, 120, pair(120, 6)},
		{1, 21, 120, impl.Pair{}},
		{120, 119, 120, pair(120, 119)},
		{1000, 995, 120, impl.Pair{}},
		{960, 952, 120, pair(120, 119)},
		{7, 4, 120, pair(14, 8)},
		{1, 1000, 120, impl.Pair{}},
		{1000, 1, 120, impl.Pair{}},
		{121, 120, 120, impl.Pair{}},
	} {
		p, ok := impl.FirstPair(c.num, c.den, c.most)
		wantResult(t, fmt.Sprintf("FirstPair %d / %d of %d", c.num, c.den, c.most), p, ok, c.want, c.want != impl.Pair{})
	}
}

// trainsOfTwo are all trains of two pairs, in order, with a ratio and no wheel of more than most teeth.
func trainsOfTwo(num int, den int, most int) [][]impl.Pair {
	var list [][]impl.Pair
	for _, first := range pairsUpTo(most) {
		for drive := impl.MinTeeth; drive <= most; drive++ {
			follow := first.Drive * drive * den / (first.Follow * num)
			if impl.MinTeeth <= follow && follow <= most && first.Drive*drive*den == first.Follow*follow*num {
				list = append(list, []impl.Pair{first, pair(drive, follow)})
			}
		}
	}
	return list
}

// fewestOf is the first one of those trains that have the fewest teeth, nil if there is none.
func fewestOf(trains [][]impl.Pair) []impl.Pair {
	if len(trains) == 0 {
		return nil
	}
	return slices.MinFunc(trains, func(a, b []impl.Pair) int { return cmp.Compare(teethOf(a), teethOf(b)) })
}

func checkTrains(t *testing.T, num int, den int, most int) {
	t.Helper()
	what := fmt.Sprintf(" %d / %d of %d", num, den, most)
	trains := trainsOfTwo(num, den, most)
	var first []impl.Pair
	if len(trains) > 0 {
		first = trains[0]
	}
	found, ok := impl.FirstTrain(num, den, most)
	wantList(t, "FirstTrain"+what, found, ok, first, len(trains) > 0)
	fewest, ok := impl.FewestTeeth(num, den, most)
	wantList(t, "FewestTeeth"+what, fewest, ok, fewestOf(trains), len(trains) > 0)
}

func TestTrainsOfTwo(t *testing.T) {
	for _, most := range []int{6, 7, 11, 20, 24} {
		for _, num := range []int{1, 2, 3, 7, 12, 16, 20, 35, 60, 121, 143, 1000} {
			for _, den := range []int{1, 3, 4, 12, 17, 25, 49, 60, 77, 144, 400, 1000} {
				checkTrains(t, num, den, most)
			}
		}
	}
	for _, c := range [][3]int{
		{1, 1, 120}, {1, 12, 120}, {1, 24, 120}, {1, 60, 119}, {1, 360, 120}, {1, 400, 120}, {1, 400, 119}, {1, 401, 120}, {400, 1, 120}, {1000, 1, 120}, {1, 1000, 120},
		{1000, 999, 120}, {997, 1000, 120}, {720, 1, 120}, {355, 113, 120}, {1000, 113, 113}, {961, 841, 120}, {12, 1, 47}, {2, 2, 6}, {1000, 1000, 7}, {36, 49, 7}, {36, 49, 6},
	} {
		checkTrains(t, c[0], c[1], c[2])
	}
}

func TestTrainsOfTwoInTable(t *testing.T) {
	for _, c := range []struct {
		num, den, most int
		first, fewest  []impl.Pair
	}{
		{1, 1, 6, train(6, 6, 6, 6), train(6, 6, 6, 6)},
		{1, 12, 120, train(6, 6, 6, 72), train(6, 18, 6, 24)},
		{1, 12, 24, train(6, 18, 6, 24), train(6, 18, 6, 24)},
		{1, 12, 23, nil, nil},
		{1, 400, 120, train(6, 120, 6, 120), train(6, 120, 6, 120)},
		{1, 400, 119, nil, nil},
		{400, 1, 120, train(120, 6, 120, 6), train(120, 6, 120, 6)},
		{999, 1, 120, nil, nil},
		{36, 49, 7, train(6, 7, 6, 7), train(6, 7, 6, 7)},
		{36, 49, 6, nil, nil},
	} {
		what := fmt.Sprintf(" %d / %d of %d", c.num, c.den, c.most)
		found, ok := impl.FirstTrain(c.num, c.den, c.most)
		wantList(t, "FirstTrain"+what, found, ok, c.first, len(c.first) > 0)
		fewest, ok := impl.FewestTeeth(c.num, c.den, c.most)
		wantList(t, "FewestTeeth"+what, fewest, ok, c.fewest, len(c.fewest) > 0)
	}
}

// TestTrainsFoundHaveTheRatio asks the functions that tell of trains about the trains that are found.
func TestTrainsFoundHaveTheRatio(t *testing.T) {
	for num := 1; num <= 1000; num = num*3/2 + 1 {
		for den := 1; den <= 1000; den = den*3/2 + 2 {
			ratio := big.NewRat(int64(num), int64(den))
			p, okPair := impl.FirstPair(num, den, 100)
			first, okFirst := impl.FirstTrain(num, den, 100)
			fewest, okFewest := impl.FewestTeeth(num, den, 100)
			if okFirst != okFewest || okPair && !okFirst {
				t.Errorf("%v: found %v, %v, %v", ratio, okPair, okFirst, okFewest)
			}
			for _, found := range [][]impl.Pair{{p}, first, fewest} {
				if !impl.IsTrain(found) || len(found) == 0 {
					continue
				}
				a, b, ok := impl.RatioOf(found)
				wantFraction(t, fmt.Sprint("RatioOf ", found), a, b, ok, ratio)
			}
		}
	}
}

// nearestPair is an independent NearestPair.
func nearestPair(num int, den int, most int) impl.Pair {
	told := big.NewRat(int64(num), int64(den))
	var nearest impl.Pair
	var least *big.Rat
	for _, p := range pairsUpTo(most) {
		way := new(big.Rat).Sub(ratOfPair(p), told)
		way.Abs(way)
		if least == nil || way.Cmp(least) < 0 || way.Cmp(least) == 0 && p.Drive+p.Follow < nearest.Drive+nearest.Follow {
			nearest, least = p, way
		}
	}
	return nearest
}

func TestNearestPair(t *testing.T) {
	for _, most := range []int{6, 7, 8, 13, 20} {
		for _, num := range []int{1, 2, 3, 5, 7, 9, 11, 13, 17, 43, 85, 141, 999, 1000} {
			for _, den := range []int{1, 2, 4, 6, 9, 11, 12, 14, 16, 42, 84, 169, 997, 1000} {
				p, ok := impl.NearestPair(num, den, most)
				wantResult(t, fmt.Sprintf("NearestPair %d / %d of %d", num, den, most), p, ok, nearestPair(num, den, most), true)
			}
		}
	}
	for _, c := range [][3]int{{355, 113, 120}, {1, 1000, 119}, {1000, 1, 120}, {999, 1000, 120}, {1000, 999, 120}, {577, 408, 120}, {239, 240, 120}, {121, 120, 120}} {
		p, ok := impl.NearestPair(c[0], c[1], c[2])
		wantResult(t, fmt.Sprintf("NearestPair %d / %d of %d", c[0], c[1], c[2]), p, ok, nearestPair(c[0], c[1], c[2]), true)
	}
}

func TestNearestPairInTable(t *testing.T) {
	for _, c := range []struct {
		num, den, most int
		want           impl.Pair
	}{
		{2, 3, 30, pair(6, 9)},
		{4, 6, 9, pair(6, 9)},
		{1, 1, 120, pair(6, 6)},
		{1000, 1, 6, pair(6, 6)},
		{1000, 1, 120, pair(120, 6)},
		{1, 1000, 120, pair(6, 120)},
		// 1 and 6 / 7 are as near, and so are 8 / 6 and 7 / 6, and 6 / 7 and 7 / 8.
		{13, 14, 7, pair(6, 6)},
		{15, 12, 8, pair(7, 6)},
		{97, 112, 8, pair(6, 7)},
		// 7 / 8 is nearer to 8 / 9 than 1.
		{8, 9, 8, pair(7, 8)},
		{991, 1000, 120, pair(110, 111)},
		{355, 113, 120, pair(22, 7)},
	} {
		p, ok := impl.NearestPair(c.num, c.den, c.most)
		wantResult(t, fmt.Sprintf("NearestPair %d / %d of %d", c.num, c.den, c.most), p, ok, c.want, true)
	}
}

// worksOf are all MotionWorks with wheels of any number of teeth, in order.
func worksOf(h int) [][]impl.Pair {
	var list [][]impl.Pair
	for _, first := range pairsUpTo(impl.MaxTeeth) {
		for drive := impl.MinTeeth; drive <= impl.MaxTeeth; drive++ {
			follow := first.Drive + first.Follow - drive
			if impl.MinTeeth <= follow && follow <= impl.MaxTeeth && first.Drive*drive*h == first.Follow*follow {
				list = append(list, []impl.Pair{first, pair(drive, follow)})
			}
		}
	}
	return list
}

func hasMoreTeeth(train []impl.Pair, most int) bool {
	return slices.ContainsFunc(train, func(p impl.Pair) bool { return max(p.Drive, p.Follow) > most })
}

// TestMotionWorks tries all dials. None of them has more than 200 works, so that this alone is no reason to fail.
func TestMotionWorks(t *testing.T) {
	everyDial(func(h int) {
		all := worksOf(h)
		for most := impl.MinTeeth; most <= impl.MaxTeeth; most++ {
			what := fmt.Sprintf(" of %d hours and %d teeth", h, most)
			want := slices.DeleteFunc(slices.Clone(all), func(train []impl.Pair) bool { return hasMoreTeeth(train, most) })
			works, ok := impl.MotionWorks(h, most)
			if !slices.EqualFunc(works, want, slices.Equal) || ok != (len(want) <= 200) {
				t.Errorf("MotionWorks%s: got %v, %v, want %v", what, works, ok, want)
			}
			first, ok := impl.FirstMotionWork(h, most)
			wantList(t, "FirstMotionWork"+what, first, ok, fewestOf(want), len(want) > 0)
		}
	})
}

func TestMotionWorksInTable(t *testing.T) {
	for _, c := range []struct {
		h, most, count int
		first          []impl.Pair
	}{
		{2, 120, 154, train(6, 12, 9, 9)},
		{2, 12, 2, train(6, 12, 9, 9)},
		{2, 11, 0, nil},
		{4, 12, 1, train(6, 12, 6, 12)},
		{4, 120, 179, train(6, 12, 6, 12)},
		{12, 26, 0, nil},
		{12, 27, 2, train(6, 27, 9, 24)},
		{12, 120, 90, train(6, 27, 9, 24)},
		{24, 39, 0, nil},
		{24, 40, 2, train(6, 40, 10, 36)},
		{24, 120, 38, train(6, 40, 10, 36)},
		{24, 6, 0, nil},
	} {
		what := fmt.Sprintf(" of %d hours and %d teeth", c.h, c.most)
		works, ok := impl.MotionWorks(c.h, c.most)
		wantResult(t, "count of MotionWorks"+what, len(works), ok, c.count, true)
		first, ok := impl.FirstMotionWork(c.h, c.most)
		wantList(t, "FirstMotionWork"+what, first, ok, c.first, c.count > 0)
	}
}

func TestTeethOf(t *testing.T) {
	for _, list := range someTrains() {
		n, ok := impl.TeethOf(list)
		wantResult(t, fmt.Sprint("TeethOf ", list), n, ok, teethOf(list), true)
	}
	for _, c := range []struct {
		train []impl.Pair
		want  int
	}{{nil, 0}, {train(), 0}, {train(6, 7), 13}, {train(10, 30, 12, 48), 100}, {slices.Repeat(train(120, 120), 4), 960}} {
		n, ok := impl.TeethOf(c.train)
		wantResult(t, fmt.Sprint("TeethOf ", c.train), n, ok, c.want, true)
	}
}

func TestCompareRatios(t *testing.T) {
	trains := someTrains()
	for i, a := range trains {
		for _, b := range append(slices.Clone(trains[i%17:])[:20], trains[:5]...) {
			want := new(big.Rat).Abs(lastAxle(a)).Cmp(new(big.Rat).Abs(lastAxle(b)))
			n, ok := impl.CompareRatios(a, b)
			wantResult(t, fmt.Sprintf("CompareRatios %v %v", a, b), n, ok, want, true)
		}
	}
	for _, c := range []struct {
		a, b []impl.Pair
		want int
	}{
		{nil, nil, 0},
		{nil, train(6, 6), 0},
		{train(), train(6, 7), 1},
		{train(6, 7), nil, -1},
		{train(10, 15), train(6, 9), 0},
		{train(10, 30, 12, 48), train(6, 72), 0},
		{train(10, 30), train(30, 10), -1},
		{train(119, 120, 119, 120, 119, 120, 119, 120), train(118, 119, 119, 120, 119, 120, 119, 120), 1},
		{train(118, 119, 120, 119), train(119, 118, 119, 120), -1},
		{slices.Repeat(train(120, 6), 4), slices.Repeat(train(6, 120), 4), 1},
	} {
		n, ok := impl.CompareRatios(c.a, c.b)
		wantResult(t, fmt.Sprintf("CompareRatios %v %v", c.a, c.b), n, ok, c.want, true)
		n, ok = impl.CompareRatios(c.b, c.a)
		wantResult(t, fmt.Sprintf("CompareRatios %v %v", c.b, c.a), n, ok, -c.want, true)
	}
}

func TestNoTrains(t *testing.T) {
	for _, p := range noPairs() {
		a, b, ok := impl.MeshesUntilSame(p)
		wantTwo(t, fmt.Sprint("MeshesUntilSame ", p), a, b, ok, 0, 0, false)
	}
	for _, list := range noTrains() {
		what := fmt.Sprint(" of ", list)
		num, den, ok := impl.RatioOf(list)
		wantTwo(t, "RatioOf"+what, num, den, ok, 0, 0, false)
		num, den, ok = impl.TurnsOfLast(list, 1)
		wantTwo(t, "TurnsOfLast"+what, num, den, ok, 0, 0, false)
		n, ok := impl.DirectionOf(list)
		wantFailure(t, "DirectionOf"+what, n, ok)
		back, ok := impl.BackTrain(list)
		wantList(t, "BackTrain"+what, back, ok, nil, false)
		n, ok = impl.TurnsUntilSame(list)
		wantFailure(t, "TurnsUntilSame"+what, n, ok)
		n, ok = impl.TeethOf(list)
		wantFailure(t, "TeethOf"+what, n, ok)
		for _, other := range [][]impl.Pair{nil, train(10, 30), list} {
			n, ok = impl.CompareRatios(list, other)
			wantFailure(t, "CompareRatios"+what, n, ok)
			n, ok = impl.CompareRatios(other, list)
			wantFailure(t, "CompareRatios to"+what, n, ok)
		}
	}
}

func checkNoSearch(t *testing.T, num int, den int, most int) {
	t.Helper()
	what := fmt.Sprintf(" %d / %d of %d", num, den, most)
	p, ok := impl.FirstPair(num, den, most)
	wantFailure(t, "FirstPair"+what, p, ok)
	p, ok = impl.NearestPair(num, den, most)
	wantFailure(t, "NearestPair"+what, p, ok)
	list, ok := impl.FirstTrain(num, den, most)
	wantList(t, "FirstTrain"+what, list, ok, nil, false)
	list, ok = impl.FewestTeeth(num, den, most)
	wantList(t, "FewestTeeth"+what, list, ok, nil, false)
}

func checkNoWorks(t *testing.T, h int, most int) {
	t.Helper()
	what := fmt.Sprintf(" of %d hours and %d teeth", h, most)
	works, ok := impl.MotionWorks(h, most)
	wantResult(t, "MotionWorks"+what, len(works), ok, 0, false)
	first, ok := impl.FirstMotionWork(h, most)
	wantList(t, "FirstMotionWork"+what, first, ok, nil, false)
}

func TestNoSearches(t *testing.T) {
	for _, term := range noTerms {
		checkNoSearch(t, term, 1, 120)
		checkNoSearch(t, 1, term, 120)
		checkNoSearch(t, term, term, 120)
	}
	for _, teeth := range noTeeth {
		checkNoSearch(t, 1, 1, teeth)
		checkNoWorks(t, 2, teeth)
		checkNoWorks(t, 12, teeth)
	}
	for _, h := range noDials {
		checkNoWorks(t, h, 120)
	}
}

func TestExampleOfGears(t *testing.T) {
	example := train(10, 30, 12, 48)
	num, den, ok := impl.RatioOf(example)
	wantTwo(t, "RatioOf", num, den, ok, 1, 12, true)
	n, ok := impl.DirectionOf(example)
	wantResult(t, "DirectionOf", n, ok, 1, true)
	works, ok := impl.MotionWorks(12, 120)
	has := slices.ContainsFunc(works, func(work []impl.Pair) bool { return slices.Equal(work, example) })
	wantResult(t, "MotionWorks with the example", has, ok, false, true)
	p, ok := impl.FirstPair(2, 3, 30)
	wantResult(t, "FirstPair", p, ok, pair(6, 9), true)
	a, b, ok := impl.MeshesUntilSame(pair(10, 15))
	wantTwo(t, "MeshesUntilSame", a, b, ok, 3, 2, true)
}
