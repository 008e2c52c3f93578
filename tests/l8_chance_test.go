package tests

import (
	"fmt"
	"math"
	"math/big"
	"runtime"
	"slices"
	"strconv"
	"strings"
	"sync"
	"testing"
	"time"

	"loop.example/g01368/impl"
)

func odds(num, den int) impl.Odds { return impl.Odds{Num: num, Den: den} }

func everyOdds() []impl.Odds {
	var all []impl.Odds
	for den := 1; den <= 10; den++ {
		for num := 0; num <= den; num++ {
			all = append(all, odds(num, den))
		}
	}
	return all
}

func isOdds(o impl.Odds) bool { return o.Den >= 1 && o.Den <= 10 && o.Num >= 0 && o.Num <= o.Den }

// noOdds are odds that are none, each by one of its numbers, or by both.
func noOdds() []impl.Odds {
	none := []impl.Odds{{}, {Num: 1}, {Num: 0, Den: 11}, {Num: 5, Den: 11}, {Num: 11, Den: 11}, {Num: 11, Den: 10}, {Num: 2, Den: 1}, {Num: -1, Den: 10}, {Num: -1, Den: 1}, {Num: -1, Den: -2}, {Num: 0, Den: -1}, {Num: 1, Den: -2}}
	for _, n := range []int{math.MinInt, math.MinInt + 1, -1 << 32, 1 << 32, 1<<32 + 2, math.MaxInt - 1, math.MaxInt} {
		none = append(none, odds(n, 2), odds(1, n), odds(n, n))
	}
	return none
}

// someOdds are fair ones, ones that never and always win, ones that are not in lowest terms, and ones with the most parts.
func someOdds() []impl.Odds {
	return []impl.Odds{odds(1, 2), odds(0, 1), odds(1, 1), odds(0, 6), odds(7, 7), odds(4, 6), odds(3, 10), odds(9, 10), odds(10, 10)}
}

// fraction is what a call tells of a chance, or of a mean.
type fraction struct {
	num, den int
	ok       bool
}

func told(num, den int, ok bool) fraction { return fraction{num, den, ok} }

func (f fraction) rat() *big.Rat { return big.NewRat(int64(f.num), int64(f.den)) }

// asTold returns how a fraction has to be told: in lowest terms, 0 as 0 and 1, and with all results zero if there is none.
func asTold(want *big.Rat) fraction {
	if want == nil {
		return fraction{}
	}
	return fraction{int(want.Num().Int64()), int(want.Denom().Int64()), true}
}

func checkFraction(t *testing.T, got fraction, want *big.Rat, format string, arguments ...any) {
	t.Helper()
	if got != asTold(want) {
		t.Errorf("%s = %v, want %v", fmt.Sprintf(format, arguments...), got, want)
	}
}

func plus(x, y *big.Rat) *big.Rat   { return new(big.Rat).Add(x, y) }
func minus(x, y *big.Rat) *big.Rat  { return new(big.Rat).Sub(x, y) }
func times(x, y *big.Rat) *big.Rat  { return new(big.Rat).Mul(x, y) }
func ratOf(o impl.Odds) *big.Rat    { return big.NewRat(int64(o.Num), int64(o.Den)) }
func ratOfNot(o impl.Odds) *big.Rat { return big.NewRat(int64(o.Den-o.Num), int64(o.Den)) }

func power(n, times int) int64 {
	product := int64(1)
	for range times {
		product *= int64(n)
	}
	return product
}

// playsFirstTo returns all ways in which points go on, from a score, until one side is first to so many.
func playsFirstTo(to, a, b int) []string {
	var all []string
	var grow func(play string)
	grow = func(play string) {
		x, y := lettersOf(play)
		if a+x == to || b+y == to {
			all = append(all, play)
			return
		}
		grow(play + "a")
		grow(play + "b")
	}
	grow("")
	return all
}

// chanceModel counts the ways in which points go on from each score, by how many of them each side wins.
type chanceModel map[[3]int]map[[2]int]int

func (m chanceModel) waysFrom(to, a, b int) map[[2]int]int {
	key := [3]int{to, a, b}
	if m[key] == nil {
		m[key] = map[[2]int]int{}
		for _, play := range playsFirstTo(to, a, b) {
			x, y := lettersOf(play)
			m[key][[2]int{x, y}]++
		}
	}
	return m[key]
}

// sum adds up what worth tells of the points at the end, each times its chance.
func (m chanceModel) sum(o impl.Odds, to, a, b int, worth func(a, b int) int) *big.Rat {
	all := new(big.Rat)
	for won, ways := range m.waysFrom(to, a, b) {
		if value := worth(a+won[0], b+won[1]); value > 0 {
			parts := int64(ways) * int64(value) * power(o.Num, won[0]) * power(o.Den-o.Num, won[1])
			all.Add(all, big.NewRat(parts, power(o.Den, won[0]+won[1])))
		}
	}
	return all
}

func isFirstTo(o impl.Odds, to int) bool { return isOdds(o) && to >= 1 && to <= 6 }

func isBefore(to, a, b int) bool { return a >= 0 && b >= 0 && a < to && b < to }

func asOne(is bool) int {
	if is {
		return 1
	}
	return 0
}

func (m chanceModel) from(o impl.Odds, to, a, b int) *big.Rat {
	return m.sum(o, to, a, b, func(a, b int) int { return asOne(a == to) })
}

func (m chanceModel) chanceFrom(o impl.Odds, to, a, b int) *big.Rat {
	if !isFirstTo(o, to) || !isBefore(to, a, b) {
		return nil
	}
	return m.from(o, to, a, b)
}

func (m chanceModel) weight(o impl.Odds, to, a, b int) *big.Rat {
	if !isFirstTo(o, to) || !isBefore(to, a, b) {
		return nil
	}
	return minus(m.from(o, to, a+1, b), m.from(o, to, a, b+1))
}

func (m chanceModel) share(o impl.Odds, to, a, b, stake int) *big.Rat {
	if chance := m.chanceFrom(o, to, a, b); chance != nil && stake >= 1 && stake <= 1000 {
		return times(chance, big.NewRat(int64(stake), 1))
	}
	return nil
}

func (m chanceModel) ofScore(o impl.Odds, to, a, b int) *big.Rat {
	isEnd := a == to && b >= 0 && b < to || b == to && a >= 0 && a < to
	if !isFirstTo(o, to) || !isEnd {
		return nil
	}
	return m.sum(o, to, 0, 0, func(x, y int) int { return asOne(x == a && y == b) })
}

func (m chanceModel) meanPoints(o impl.Odds, to int) *big.Rat {
	if !isFirstTo(o, to) {
		return nil
	}
	return m.sum(o, to, 0, 0, func(a, b int) int { return a + b })
}

// least tries one number of points behind the other.
func (m chanceModel) least(o impl.Odds, num, den int) int {
	if !isOdds(o) || den < 1 || den > 1000 || num < 0 || num > den {
		return 0
	}
	for to := 1; to <= 6; to++ {
		if m.from(o, to, 0, 0).Cmp(big.NewRat(int64(num), int64(den))) >= 0 {
			return to
		}
	}
	return 0
}

// bestScore returns the first score, by a, then by b, of up to so many points with the greatest value, where some have none.
func bestScore(most int, valueOf func(a, b int) *big.Rat) (int, int, bool) {
	var greatest *big.Rat
	bestA, bestB := 0, 0
	for a := 0; a <= most; a++ {
		for b := 0; b <= most; b++ {
			if value := valueOf(a, b); value != nil && (greatest == nil || value.Cmp(greatest) > 0) {
				greatest, bestA, bestB = value, a, b
			}
		}
	}
	return bestA, bestB, greatest != nil
}

// checkChanceScore holds what is told of a score, which may be none.
func (m chanceModel) checkChanceScore(t *testing.T, o impl.Odds, to, a, b int) {
	t.Helper()
	checkFraction(t, told(impl.ChanceFrom(o, to, a, b)), m.chanceFrom(o, to, a, b), "ChanceFrom(%v, %d, %d, %d)", o, to, a, b)
	checkFraction(t, told(impl.ChanceOfScore(o, to, a, b)), m.ofScore(o, to, a, b), "ChanceOfScore(%v, %d, %d, %d)", o, to, a, b)
	checkFraction(t, told(impl.PointWeight(o, to, a, b)), m.weight(o, to, a, b), "PointWeight(%v, %d, %d, %d)", o, to, a, b)
	for _, stake := range []int{1, 2, 9, 64, 999, 1000} {
		m.checkShare(t, o, to, a, b, stake)
	}
}

func (m chanceModel) checkShare(t *testing.T, o impl.Odds, to, a, b, stake int) {
	t.Helper()
	checkFraction(t, told(impl.ShareOfStake(o, to, a, b, stake)), m.share(o, to, a, b, stake), "ShareOfStake(%v, %d, %d, %d, %d)", o, to, a, b, stake)
}

// checkFirst holds what is told of odds, which may be none, and first to so many, which may be too many.
func (m chanceModel) checkFirst(t *testing.T, o impl.Odds, to int) {
	t.Helper()
	checkFraction(t, told(impl.ChanceFirst(o, to)), m.chanceFrom(o, to, 0, 0), "ChanceFirst(%v, %d)", o, to)
	checkFraction(t, told(impl.MeanPoints(o, to)), m.meanPoints(o, to), "MeanPoints(%v, %d)", o, to)
	most := min(to, 6)
	a, b, ok := bestScore(most, func(a, b int) *big.Rat { return m.weight(o, to, a, b) })
	if x, y, fine := impl.BiggestPoint(o, to); x != a || y != b || fine != ok {
		t.Errorf("BiggestPoint(%v, %d) = %d %d %v, want %d %d", o, to, x, y, fine, a, b)
	}
	a, b, ok = bestScore(most, func(a, b int) *big.Rat { return m.ofScore(o, to, a, b) })
	if x, y, fine := impl.LikeliestScore(o, to); x != a || y != b || fine != ok {
		t.Errorf("LikeliestScore(%v, %d) = %d %d %v, want %d %d", o, to, x, y, fine, a, b)
	}
}

func (m chanceModel) checkLeast(t *testing.T, o impl.Odds, num, den int) {
	t.Helper()
	want := m.least(o, num, den)
	if got, ok := impl.LeastFirst(o, num, den); got != want || ok != (want > 0) {
		t.Errorf("LeastFirst(%v, %d, %d) = %d %v, want %d", o, num, den, got, ok, want)
	}
}

func TestChanceExample(t *testing.T) {
	two, fair := odds(2, 3), odds(1, 2)
	for name, look := range map[string]struct{ got, want fraction }{
		"ChanceFirst 2":      {told(impl.ChanceFirst(two, 2)), fraction{20, 27, true}},
		"2 to 0":             {told(impl.ChanceOfScore(two, 2, 2, 0)), fraction{4, 9, true}},
		"2 to 1":             {told(impl.ChanceOfScore(two, 2, 2, 1)), fraction{8, 27, true}},
		"MeanPoints":         {told(impl.MeanPoints(two, 2)), fraction{22, 9, true}},
		"ChanceFrom":         {told(impl.ChanceFrom(two, 2, 0, 1)), fraction{4, 9, true}},
		"DeuceChance":        {told(impl.DeuceChance(two)), fraction{4, 5, true}},
		"MeanDeuce":          {told(impl.MeanDeuce(two)), fraction{18, 5, true}},
		"GameChance":         {told(impl.GameChance(fair)), fraction{1, 2, true}},
		"GameChanceFrom":     {told(impl.GameChanceFrom(fair, 3, 2)), fraction{3, 4, true}},
		"ShareOfStake":       {told(impl.ShareOfStake(fair, 2, 1, 0, 64)), fraction{48, 1, true}},
		"ChanceFirst 3":      {told(impl.ChanceFirst(two, 3)), fraction{64, 81, true}},
		"PointWeight":        {told(impl.PointWeight(fair, 2, 1, 1)), fraction{1, 1, true}},
		"BiggestPoint":       {told(impl.BiggestPoint(fair, 2)), fraction{1, 1, true}},
		"LikeliestScore":     {told(impl.LikeliestScore(two, 2)), fraction{2, 0, true}},
		"first to MaxFirst":  {told(impl.ChanceFirst(odds(9, 10), 6)), fraction{6248151837, 6250000000, true}},
		"serves in turn":     {told(impl.ServeChance(two, fair, 1)), fraction{2, 3, true}},
		"serves of both":     {told(impl.ServeChance(two, fair, 2)), fraction{2, 3, true}},
		"a chance of none":   {told(impl.ChanceFirst(odds(0, 7), 6)), fraction{0, 1, true}},
		"a chance of all":    {told(impl.ChanceFirst(odds(7, 7), 6)), fraction{1, 1, true}},
		"points of one side": {told(impl.MeanPoints(odds(7, 7), 6)), fraction{6, 1, true}},
	} {
		if look.got != look.want {
			t.Errorf("%s: %v, want %v", name, look.got, look.want)
		}
	}
	if got, ok := impl.LeastFirst(two, 3, 4); got != 3 || !ok {
		t.Error("LeastFirst of 3/4", got, ok)
	}
	if got, ok := impl.OtherOdds(two); got != odds(1, 3) || !ok {
		t.Error("OtherOdds of 2/3", got, ok)
	}
	if impl.MaxPart != 10 || impl.MaxFirst != 6 {
		t.Error("the limits are", impl.MaxPart, impl.MaxFirst)
	}
}

func TestWhichAreOdds(t *testing.T) {
	for num := -3; num <= 14; num++ {
		for den := -3; den <= 14; den++ {
			if o := odds(num, den); impl.AreOdds(o) != slices.Contains(everyOdds(), o) {
				t.Errorf("AreOdds(%v) = %v", o, impl.AreOdds(o))
			}
		}
	}
	for _, o := range noOdds() {
		if impl.AreOdds(o) {
			t.Errorf("AreOdds(%v)", o)
		}
	}
	for _, num := range wildInts {
		for _, den := range wildInts {
			if o := odds(num, den); impl.AreOdds(o) != isOdds(o) {
				t.Errorf("AreOdds(%v) = %v", o, impl.AreOdds(o))
			}
		}
	}
}

// TestChancesOfAllPlays compares what is told with sums over all ways in which points can go on, for all odds, all numbers of points to be first to, and all scores, with those just beyond.
func TestChancesOfAllPlays(t *testing.T) {
	m := chanceModel{}
	for _, o := range everyOdds() {
		for to := 0; to <= 7; to++ {
			m.checkFirst(t, o, to)
			for a := -1; a <= to+1; a++ {
				for b := -1; b <= to+1; b++ {
					m.checkChanceScore(t, o, to, a, b)
				}
			}
		}
	}
}

// TestChancesAreOne holds promise 8 for first to so many.
func TestChancesAreOne(t *testing.T) {
	one := big.NewRat(1, 1)
	for _, o := range everyOdds() {
		other, ok := impl.OtherOdds(o)
		if !ok {
			t.Fatalf("OtherOdds(%v) fails", o)
		}
		for to := 1; to <= 6; to++ {
			won, lost, mean := new(big.Rat), new(big.Rat), new(big.Rat)
			for less := range to {
				ahead, behind := told(impl.ChanceOfScore(o, to, to, less)), told(impl.ChanceOfScore(o, to, less, to))
				won, lost = plus(won, ahead.rat()), plus(lost, behind.rat())
				mean = plus(mean, times(plus(ahead.rat(), behind.rat()), big.NewRat(int64(to+less), 1)))
			}
			if plus(won, lost).Cmp(one) != 0 {
				t.Errorf("scores at the end of %v to %d have %v and %v", o, to, won, lost)
			}
			checkFraction(t, told(impl.ChanceFirst(o, to)), won, "ChanceFirst(%v, %d)", o, to)
			checkFraction(t, told(impl.ChanceFirst(other, to)), lost, "ChanceFirst(%v, %d)", other, to)
			checkFraction(t, told(impl.MeanPoints(o, to)), mean, "MeanPoints(%v, %d)", o, to)
			for a := range to {
				for b := range to {
					first, second := told(impl.ChanceFrom(o, to, a, b)), told(impl.ChanceFrom(other, to, b, a))
					if plus(first.rat(), second.rat()).Cmp(one) != 0 {
						t.Errorf("from %d and %d of %v to %d the chances are %v and %v", a, b, o, to, first, second)
					}
				}
			}
		}
	}
}

// TestBiggestPoints names scores with the same weight: only odds with which one side wins all points have several.
func TestBiggestPoints(t *testing.T) {
	for to := 1; to <= 6; to++ {
		for _, o := range everyOdds() {
			a, b := to-1, to-1
			if o.Num == o.Den {
				a = 0
			}
			if o.Num == 0 {
				b = 0
			}
			if x, y, ok := impl.BiggestPoint(o, to); x != a || y != b || !ok {
				t.Errorf("BiggestPoint(%v, %d) = %d %d %v", o, to, x, y, ok)
			}
			checkFraction(t, told(impl.PointWeight(o, to, a, b)), big.NewRat(1, 1), "PointWeight(%v, %d, %d, %d)", o, to, a, b)
		}
	}
}

// TestLikeliestScores names scores with the same chance.
func TestLikeliestScores(t *testing.T) {
	for _, look := range []struct {
		o        impl.Odds
		to, a, b int
	}{
		{odds(1, 2), 1, 0, 1}, {odds(1, 2), 2, 0, 2}, {odds(5, 10), 3, 1, 3}, {odds(1, 2), 6, 4, 6}, {odds(2, 4), 5, 3, 5},
		{odds(0, 3), 6, 0, 6}, {odds(3, 3), 6, 6, 0}, {odds(2, 3), 3, 3, 0}, {odds(1, 3), 3, 0, 3}, {odds(2, 3), 2, 2, 0},
		{odds(1, 3), 4, 1, 4}, {odds(3, 4), 4, 4, 0}, {odds(5, 6), 6, 6, 0}, {odds(1, 6), 6, 0, 6}, {odds(3, 4), 5, 5, 1}, {odds(1, 4), 5, 1, 5},
	} {
		m := chanceModel{}
		a, b, _ := bestScore(look.to, func(a, b int) *big.Rat { return m.ofScore(look.o, look.to, a, b) })
		if x, y, ok := impl.LikeliestScore(look.o, look.to); x != a || y != b || !ok {
			t.Errorf("LikeliestScore(%v, %d) = %d %d %v, want %d %d", look.o, look.to, x, y, ok, a, b)
		}
		if a != look.a || b != look.b {
			t.Errorf("LikeliestScore(%v, %d) is %d %d, not %d %d", look.o, look.to, a, b, look.a, look.b)
		}
	}
}

// TestLeastFirst asks for chances next to those that there are.
func TestLeastFirst(t *testing.T) {
	m := chanceModel{}
	for _, o := range everyOdds() {
		for _, den := range []int{1, 2, 3, 4, 7, 27, 81, 243, 999, 1000} {
			asked := map[int]bool{0: true, den: true, 1: true, den - 1: true, -1: true, den + 1: true}
			for to := 1; to <= 6; to++ {
				near, _ := times(m.from(o, to, 0, 0), big.NewRat(int64(den), 1)).Float64()
				for num := int(near) - 1; num <= int(near)+1; num++ {
					asked[num] = true
				}
			}
			for num := range asked {
				m.checkLeast(t, o, num, den)
			}
		}
	}
	for _, look := range []struct {
		o              impl.Odds
		num, den, want int
	}{
		{odds(2, 3), 20, 27, 2}, {odds(2, 3), 740, 999, 2}, {odds(2, 3), 741, 999, 3}, {odds(2, 3), 64, 81, 3}, {odds(2, 3), 1, 1, 0},
		{odds(3, 3), 1, 1, 1}, {odds(3, 3), 1000, 1000, 1}, {odds(0, 3), 0, 1000, 1}, {odds(0, 3), 1, 1000, 0}, {odds(1, 2), 500, 1000, 1},
		{odds(1, 2), 501, 1000, 0}, {odds(9, 10), 999, 1000, 5}, {odds(2, 3), 0, 1, 1}, {odds(2, 3), 0, 1001, 0}, {odds(2, 3), 1, 1001, 0},
	} {
		m.checkLeast(t, look.o, look.num, look.den)
		if want := m.least(look.o, look.num, look.den); want != look.want {
			t.Errorf("the least to of %v for %d / %d is %d, not %d", look.o, look.num, look.den, want, look.want)
		}
	}
}

func TestStakes(t *testing.T) {
	m := chanceModel{}
	for stake := -1; stake <= 1002; stake++ {
		for _, o := range someOdds() {
			m.checkShare(t, o, 3, 2, 1, stake)
			m.checkShare(t, o, 6, 0, 0, stake)
		}
	}
	for _, o := range someOdds() {
		other, _ := impl.OtherOdds(o)
		for _, stake := range []int{1, 37, 1000} {
			first, second := told(impl.ShareOfStake(o, 5, 1, 3, stake)), told(impl.ShareOfStake(other, 5, 3, 1, stake))
			if plus(first.rat(), second.rat()).Cmp(big.NewRat(int64(stake), 1)) != 0 {
				t.Errorf("the shares of %d with %v are %v and %v", stake, o, first, second)
			}
		}
	}
}

// gameBounds40 plays 40 points of a game from a score on: the chance that a has won by then, and the chance that it has or still may.
func gameBounds40(o impl.Odds, a, b int) (least, most *big.Rat) {
	open := map[[2]int]*big.Rat{{a, b}: big.NewRat(1, 1)}
	least = new(big.Rat)
	for range 40 {
		next := map[[2]int]*big.Rat{}
		for score, chance := range open {
			for side, part := range map[string]*big.Rat{"a": ratOf(o), "b": ratOfNot(o)} {
				behind := score
				behind[strings.Index("ab", side)]++
				switch wonBy(race(4, 2), behind[0], behind[1]) {
				case "a":
					least.Add(least, times(chance, part))
				case "":
					if next[behind] == nil {
						next[behind] = new(big.Rat)
					}
					next[behind].Add(next[behind], times(chance, part))
				}
			}
		}
		open = next
	}
	most = new(big.Rat).Set(least)
	for _, chance := range open {
		most.Add(most, chance)
	}
	return least, most
}

// gameChance returns what a game tells of a score with one point more.
func gameChance(o impl.Odds, a, b int) *big.Rat {
	if a == 4 || b == 4 {
		return big.NewRat(int64(asOne(a == 4)), 1)
	}
	return told(impl.GameChanceFrom(o, a, b)).rat()
}

// TestGameChances holds that each chance is that of both next points, that at deuce it is that of two points, where it may be deuce again, and that it is as in a game of many points.
func TestGameChances(t *testing.T) {
	for _, o := range everyOdds() {
		p, q := ratOf(o), ratOfNot(o)
		other, _ := impl.OtherOdds(o)
		for a := range 4 {
			for b := range 4 {
				got := told(impl.GameChanceFrom(o, a, b))
				if !got.ok {
					t.Fatalf("GameChanceFrom(%v, %d, %d) fails", o, a, b)
				}
				want := plus(times(p, gameChance(o, a+1, b)), times(q, gameChance(o, a, b+1)))
				if a == 3 && b == 3 {
					want = plus(times(p, p), times(times(p, q), times(got.rat(), big.NewRat(2, 1))))
				}
				checkFraction(t, got, want, "GameChanceFrom(%v, %d, %d)", o, a, b)
				least, most := gameBounds40(o, a, b)
				if got.rat().Cmp(least) < 0 || got.rat().Cmp(most) > 0 {
					t.Errorf("GameChanceFrom(%v, %d, %d) = %v, want %v .. %v", o, a, b, got, least.FloatString(9), most.FloatString(9))
				}
				if both := plus(got.rat(), gameChance(other, b, a)); both.Cmp(big.NewRat(1, 1)) != 0 {
					t.Errorf("GameChanceFrom(%v, %d, %d) of both sides is %v", o, a, b, both)
				}
			}
		}
		checkFraction(t, told(impl.GameChance(o)), gameChance(o, 0, 0), "GameChance(%v)", o)
	}
	for _, look := range []struct{ num, den, wantNum, wantDen int }{{0, 1, 0, 1}, {0, 10, 0, 1}, {1, 1, 1, 1}, {10, 10, 1, 1}, {5, 10, 1, 2}, {2, 3, 208, 243}} {
		if got := told(impl.GameChance(odds(look.num, look.den))); got != (fraction{look.wantNum, look.wantDen, true}) {
			t.Errorf("GameChance of %d/%d is %v", look.num, look.den, got)
		}
	}
}

func TestGameScoresThatAreNone(t *testing.T) {
	numbers := append([]int{-2, -1, 4, 5, 6}, wildInts...)
	for _, o := range append(someOdds(), noOdds()...) {
		for _, a := range numbers {
			for _, b := range numbers {
				if isOdds(o) && isBefore(4, a, b) {
					continue
				}
				checkFraction(t, told(impl.GameChanceFrom(o, a, b)), nil, "GameChanceFrom(%v, %d, %d)", o, a, b)
			}
		}
		if !isOdds(o) {
			checkFraction(t, told(impl.GameChanceFrom(o, 3, 3)), nil, "GameChanceFrom(%v, 3, 3)", o)
			checkFraction(t, told(impl.GameChance(o)), nil, "GameChance(%v)", o)
		}
	}
}

// TestDeuce holds that some side is ahead by two points behind two of them, or it begins again; odds with which one side wins all points fail.
func TestDeuce(t *testing.T) {
	for _, o := range append(everyOdds(), noOdds()...) {
		chance, mean := told(impl.DeuceChance(o)), told(impl.MeanDeuce(o))
		if !isOdds(o) || o.Num == 0 || o.Num == o.Den {
			checkFraction(t, chance, nil, "DeuceChance(%v)", o)
			checkFraction(t, mean, nil, "MeanDeuce(%v)", o)
			continue
		}
		if !chance.ok || !mean.ok {
			t.Errorf("DeuceChance(%v) = %v, MeanDeuce %v", o, chance, mean)
			continue
		}
		p, q := ratOf(o), ratOfNot(o)
		again := times(times(p, q), big.NewRat(2, 1))
		checkFraction(t, chance, plus(times(p, p), times(again, chance.rat())), "DeuceChance(%v)", o)
		checkFraction(t, mean, plus(big.NewRat(2, 1), times(again, mean.rat())), "MeanDeuce(%v)", o)
		checkFraction(t, chance, gameChance(o, 3, 3), "DeuceChance(%v)", o)
		other, _ := impl.OtherOdds(o)
		if both := plus(chance.rat(), told(impl.DeuceChance(other)).rat()); both.Cmp(big.NewRat(1, 1)) != 0 {
			t.Errorf("DeuceChance(%v) of both sides is %v", o, both)
		}
		checkFraction(t, told(impl.MeanDeuce(other)), mean.rat(), "MeanDeuce(%v)", other)
	}
	for _, look := range []struct{ num, den, chance, all, mean, parts int }{{1, 2, 1, 2, 4, 1}, {5, 10, 1, 2, 4, 1}, {4, 6, 4, 5, 18, 5}, {9, 10, 81, 82, 100, 41}, {1, 10, 1, 82, 100, 41}, {2, 8, 1, 10, 16, 5}} {
		o := odds(look.num, look.den)
		checkFraction(t, told(impl.DeuceChance(o)), big.NewRat(int64(look.chance), int64(look.all)), "DeuceChance(%v)", o)
		checkFraction(t, told(impl.MeanDeuce(o)), big.NewRat(int64(look.mean), int64(look.parts)), "MeanDeuce(%v)", o)
	}
}

// serveWays counts the plays first to so many that a wins, by the points that each side wins where a serves, then by those where b does.
func serveWays(to int) map[[4]int]int64 {
	ways := map[[4]int]int64{}
	for _, play := range playsFirstTo(to, 0, 0) {
		var won [4]int
		for i := range len(play) {
			won[i%2*2+strings.Index("ab", play[i:i+1])]++
		}
		if won[0]+won[2] == to {
			ways[won]++
		}
	}
	return ways
}

// serveChance adds up all plays that a wins, in parts of all that there are if no point is left out.
func serveChance(own, other impl.Odds, to int, ways map[[4]int]int64) *big.Rat {
	parts := int64(0)
	for won, many := range ways {
		many *= power(own.Num, won[0]) * power(own.Den-own.Num, won[1]) * power(own.Den, to-won[0]-won[1])
		many *= power(other.Num, won[2]) * power(other.Den-other.Num, won[3]) * power(other.Den, to-won[2]-won[3])
		parts += many
	}
	return big.NewRat(parts, power(own.Den, to)*power(other.Den, to))
}

func TestServeChances(t *testing.T) {
	m := chanceModel{}
	for to := 1; to <= 4; to++ {
		ways := serveWays(to)
		for _, own := range everyOdds() {
			for _, other := range everyOdds() {
				checkFraction(t, told(impl.ServeChance(own, other, to)), serveChance(own, other, to, ways), "ServeChance(%v, %v, %d)", own, other, to)
			}
			checkFraction(t, told(impl.ServeChance(own, own, to)), m.from(own, to, 0, 0), "ServeChance(%v, the same, %d)", own, to)
		}
	}
	for _, own := range someOdds() {
		for _, other := range someOdds() {
			for _, to := range append([]int{5, 6, 7}, wildInts...) {
				if to < 1 || to > 4 {
					checkFraction(t, told(impl.ServeChance(own, other, to)), nil, "ServeChance(%v, %v, %d)", own, other, to)
				}
			}
			not, _ := impl.OtherOdds(own)
			notOther, _ := impl.OtherOdds(other)
			first, second := told(impl.ServeChance(own, other, 4)), told(impl.ServeChance(not, notOther, 4))
			if plus(first.rat(), second.rat()).Cmp(big.NewRat(1, 1)) != 0 {
				t.Errorf("ServeChance(%v, %v, 4) of both sides is %v and %v", own, other, first, second)
			}
		}
		for _, none := range noOdds() {
			checkFraction(t, told(impl.ServeChance(own, none, 3)), nil, "ServeChance(%v, %v, 3)", own, none)
			checkFraction(t, told(impl.ServeChance(none, own, 3)), nil, "ServeChance(%v, %v, 3)", none, own)
			checkFraction(t, told(impl.ServeChance(none, none, 1)), nil, "ServeChance(%v, %v, 1)", none, none)
		}
	}
}

// TestOddsNotInLowestTerms holds that only texts and OtherOdds tell odds apart that are the same chance.
func TestOddsNotInLowestTerms(t *testing.T) {
	for _, o := range everyOdds() {
		for factor := 2; o.Den*factor <= 10; factor++ {
			same := odds(o.Num*factor, o.Den*factor)
			for to := 1; to <= 6; to++ {
				if x, y := told(impl.ChanceFirst(o, to)), told(impl.ChanceFirst(same, to)); x != y {
					t.Errorf("ChanceFirst(%v, %d) = %v, with %v it is %v", o, to, x, same, y)
				}
				if x, y := told(impl.MeanPoints(o, to)), told(impl.MeanPoints(same, to)); x != y {
					t.Errorf("MeanPoints(%v, %d) = %v, with %v it is %v", o, to, x, same, y)
				}
			}
			if x, y := told(impl.GameChance(o)), told(impl.GameChance(same)); x != y {
				t.Errorf("GameChance(%v) = %v, with %v it is %v", o, x, same, y)
			}
			if x, y := told(impl.ServeChance(o, odds(3, 7), 4)), told(impl.ServeChance(same, odds(3, 7), 4)); x != y {
				t.Errorf("ServeChance(%v, 3/7, 4) = %v, with %v it is %v", o, x, same, y)
			}
		}
	}
}

func TestOtherOdds(t *testing.T) {
	for _, o := range everyOdds() {
		other, ok := impl.OtherOdds(o)
		if other != odds(o.Den-o.Num, o.Den) || !ok {
			t.Errorf("OtherOdds(%v) = %v %v", o, other, ok)
		}
		if back, ok := impl.OtherOdds(other); back != o || !ok {
			t.Errorf("OtherOdds(%v) = %v %v", other, back, ok)
		}
	}
	for _, o := range noOdds() {
		if got, ok := impl.OtherOdds(o); got != (impl.Odds{}) || ok {
			t.Errorf("OtherOdds(%v) = %v %v", o, got, ok)
		}
	}
}

func textOfOdds(o impl.Odds) string { return strconv.Itoa(o.Num) + "/" + strconv.Itoa(o.Den) }

func TestOddsTexts(t *testing.T) {
	texts := map[string]impl.Odds{}
	for _, o := range everyOdds() {
		texts[textOfOdds(o)] = o
		if got, ok := impl.OddsText(o); got != textOfOdds(o) || !ok {
			t.Errorf("OddsText(%v) = %q %v", o, got, ok)
		}
	}
	check := func(text string) {
		want, is := texts[text]
		if got, ok := impl.ParseOdds(text); got != want || ok != is {
			t.Errorf("ParseOdds(%.200q) = %v %v", text, got, ok)
		}
	}
	for text := range texts {
		for _, near := range []string{text, " " + text, text + " ", "0" + text, "+" + text, "-" + text, text + "/", "/" + text, text + "/1", text + "0", strings.Replace(text, "/", "/0", 1), strings.Replace(text, "/", "//", 1), strings.Replace(text, "/", "", 1), strings.Replace(text, "/", ":", 1)} {
			check(near)
		}
	}
	for _, o := range noOdds() {
		if got, ok := impl.OddsText(o); got != "" || ok {
			t.Errorf("OddsText(%v) = %q %v", o, got, ok)
		}
		check(textOfOdds(o))
	}
	for _, text := range append(everyText("0129/+-", 5), noPoints()...) {
		check(text)
	}
	for _, text := range []string{"2/3\n", "2/3\x00", "2 / 3", "2/3.0", "2.0/3", "0x2/3", "2/0x3", "1_0/10", "2e0/3", "２/3", "2／3", "2\\3", "18446744073709551618/18446744073709551619", "9223372036854775807/9223372036854775807", "9223372036854775808/1", "-0/3", "0/-3", "0/0", "/3", "2/", "/", "11/11", "0/11"} {
		check(text)
	}
	check(strings.Repeat("0", 1<<20) + "2/3")
	check(strings.Repeat("2/3", 1<<18))
}

// TestWildChances holds promise 11 for odds, numbers of points, scores, stakes and parts that are none.
func TestWildChances(t *testing.T) {
	m := chanceModel{}
	numbers := append([]int{5, 6, 7, 10, 11, 999, 1000}, wildInts...)
	for _, o := range append(noOdds(), someOdds()...) {
		for _, x := range numbers {
			m.checkFirst(t, o, x)
			m.checkShare(t, o, 3, 1, 2, x)
			for _, y := range numbers {
				m.checkChanceScore(t, o, 3, x, y)
				m.checkChanceScore(t, o, x, y, 0)
				m.checkChanceScore(t, o, x, 0, y)
				m.checkChanceScore(t, o, x, x, y)
				m.checkChanceScore(t, o, x, y, x)
				m.checkLeast(t, o, x, y)
			}
		}
	}
}

// callChances calls all functions of the chapter that send scores.
func callChances(o impl.Odds, to int) []fraction {
	last := max(to-1, 0)
	return []fraction{
		told(impl.ChanceFirst(o, to)), told(impl.ChanceFrom(o, to, last, 0)), told(impl.ChanceFrom(o, to, last, last)), told(impl.ChanceOfScore(o, to, 0, to)),
		told(impl.MeanPoints(o, to)), told(impl.GameChance(o)), told(impl.GameChanceFrom(o, 3, 3)), told(impl.GameChanceFrom(o, 0, 2)),
		told(impl.ServeChance(o, odds(3, 10), min(to, 4))), told(impl.ShareOfStake(o, to, last, 0, 1000)), told(impl.PointWeight(o, to, 0, last)),
		told(impl.BiggestPoint(o, to)), told(impl.LikeliestScore(o, to)),
	}
}

// TestNoSenderIsLeft holds that what a call starts ends with it, and that calls at the same time do not disturb each other.
func TestNoSenderIsLeft(t *testing.T) {
	before := runtime.NumGoroutine()
	var want [][]fraction
	for _, o := range everyOdds() {
		want = append(want, callChances(o, 5))
	}
	var callers sync.WaitGroup
	for i, o := range everyOdds() {
		callers.Go(func() {
			if got := callChances(o, 5); !slices.Equal(got, want[i]) {
				t.Errorf("calls with %v are %v, before they were %v", o, got, want[i])
			}
		})
	}
	callers.Wait()
	for range 500 {
		if runtime.NumGoroutine() <= before {
			return
		}
		time.Sleep(10 * time.Millisecond)
	}
	t.Errorf("%d goroutines are left, before there were %d", runtime.NumGoroutine(), before)
}
