package tests

import (
	"math/big"
	"math/rand"
	"slices"
	"strconv"
	"strings"
	"testing"

	"loop.example/g01368/impl"
)

// wildKinds are lists that are no kinds.
var wildKinds = [][]int{
	nil, {}, {0}, {-1}, {21}, {0, 1}, {1, 21}, {20, 21}, {1, 1}, {20, 20}, {2, 1}, {1, 3, 2}, {1, 2, 2}, {2, 3, 3, 7}, {3, 2, 7}, {2, 7, 3}, {-2, 3, 7},
	{1, 2, 3, 4, 5, 6}, {1, 2, 3, 4, 5, 5}, {1, 2, 3, 4, 4}, {15, 16, 17, 18, 19, 20}, {1, 2, 3, 4, 21}, {0, 2, 3, 4, 5},
}

// someKinds have one kind and MaxKinds of them, kinds of 1 and of MaxPoints, and some with a common divisor.
func someKinds() [][]int {
	return [][]int{
		{1}, {2}, {7}, {20}, {1, 2}, {2, 3}, {2, 4}, {1, 20}, {19, 20}, {5, 20}, {2, 3, 7}, {6, 10, 15}, {6, 9, 20}, {1, 4, 6}, {1, 5, 8}, {3, 6, 9},
		{1, 4, 6, 9}, {4, 9, 11, 12}, {1, 2, 3, 4, 5}, {16, 17, 18, 19, 20}, {2, 4, 6, 8, 10}, {1, 7, 12, 14, 20}, {4, 8, 12, 16, 20}, {3, 5, 7, 11, 20},
	}
}

// everyKinds returns all kinds.
func everyKinds() [][]int {
	var all [][]int
	var grow func(kinds []int, from int)
	grow = func(kinds []int, from int) {
		for points := from; points <= 20 && len(kinds) < 5; points++ {
			next := append(slices.Clone(kinds), points)
			all = append(all, next)
			grow(next, points+1)
		}
	}
	grow(nil, 1)
	return all
}

func randomKinds(r *rand.Rand) []int {
	kinds := r.Perm(20)[:1+r.Intn(5)]
	for i := range kinds {
		kinds[i]++
	}
	slices.Sort(kinds)
	return kinds
}

type scoreCall struct {
	name string
	call func([]int, int) (int, bool)
}

func scoreCalls() []scoreCall {
	return []scoreCall{
		{"FewestGoals", impl.FewestGoals}, {"CountGoalLists", impl.CountGoalLists}, {"CountGoalOrders", impl.CountGoalOrders}, {"GoalsMissing", impl.GoalsMissing},
	}
}

type resultCall struct {
	name string
	call func([]int, int, int) (int, bool)
}

func resultCalls() []resultCall {
	return []resultCall{{"CountGames", impl.CountGames}, {"CountNeverBehind", impl.CountNeverBehind}}
}

// listGoals calls look with all lists of how many goals of each kind score so many points, those with the most of the greatest kind first.
func listGoals(kinds []int, score int, look func(goals []int)) {
	goals := make([]int, len(kinds))
	var fill func(kind, left int)
	fill = func(kind, left int) {
		if kind < 0 {
			if left == 0 {
				look(goals)
			}
			return
		}
		for many := left / kinds[kind]; many >= 0; many-- {
			goals[kind] = many
			fill(kind-1, left-many*kinds[kind])
		}
	}
	fill(len(kinds)-1, score)
}

// checkScore holds promise 5 for a score: all lists of goals are made.
func checkScore(t *testing.T, kinds []int, score int) {
	t.Helper()
	lists, fewest := 0, 0
	var first []int
	listGoals(kinds, score, func(goals []int) {
		lists++
		if many := sumInts(goals); first == nil || many < fewest {
			first, fewest = slices.Clone(goals), many
		}
	})
	if got, ok := impl.CanReach(kinds, score); got != (lists > 0) || !ok {
		t.Errorf("CanReach(%v, %d) = %v %v", kinds, score, got, ok)
	}
	if got, ok := impl.CountGoalLists(kinds, score); got != lists || !ok {
		t.Errorf("CountGoalLists(%v, %d) = %d %v, want %d", kinds, score, got, ok, lists)
	}
	if got, ok := impl.FewestGoals(kinds, score); got != fewest || ok != (lists > 0) {
		t.Errorf("FewestGoals(%v, %d) = %d %v, want %d", kinds, score, got, ok, fewest)
	}
	if got, ok := impl.FirstGoals(kinds, score); !slices.Equal(got, first) || ok != (lists > 0) {
		t.Errorf("FirstGoals(%v, %d) = %v %v, want %v", kinds, score, got, ok, first)
	}
}

func TestGoalsOfTheExample(t *testing.T) {
	kinds, ok := impl.ParseKinds("2-3-7")
	if !slices.Equal(kinds, []int{2, 3, 7}) || !ok {
		t.Fatal("ParseKinds", kinds, ok)
	}
	if got, ok := impl.NotReached(kinds, 20); !slices.Equal(got, []int{1}) || !ok {
		t.Error("NotReached", got, ok)
	}
	if got, ok := impl.GreatestNotReached(kinds); got != 1 || !ok {
		t.Error("GreatestNotReached", got, ok)
	}
	if got, ok := impl.FewestGoals(kinds, 12); got != 3 || !ok {
		t.Error("FewestGoals", got, ok)
	}
	if got, ok := impl.FirstGoals(kinds, 12); !slices.Equal(got, []int{1, 1, 1}) || !ok {
		t.Error("FirstGoals", got, ok)
	}
	if got, ok := impl.CountGoalLists(kinds, 12); got != 4 || !ok {
		t.Error("CountGoalLists", got, ok)
	}
	if got, ok := impl.ScoresOn(kinds, "aCb"); !slices.EqualFunc(got, [][]int{{0, 0}, {2, 0}, {2, 7}, {5, 7}}, slices.Equal[[]int]) || !ok {
		t.Error("ScoresOn", got, ok)
	}
	if got, ok := impl.LeadTurns(kinds, "aCb"); got != 1 || !ok {
		t.Error("LeadTurns", got, ok)
	}
	if a, b, ok := impl.GreatestLead(kinds, "aCb"); a != 2 || b != 5 || !ok {
		t.Error("GreatestLead", a, b, ok)
	}
	if a, b, ok := impl.GoalsAhead(kinds, "aCb"); a != 1 || b != 2 || !ok {
		t.Error("GoalsAhead", a, b, ok)
	}
	if got, ok := impl.CountGames(kinds, 2, 3); got != 2 || !ok {
		t.Error("CountGames", got, ok)
	}
	if got, ok := impl.CountNeverBehind(kinds, 3, 2); got != 1 || !ok {
		t.Error("CountNeverBehind", got, ok)
	}
	if got, ok := impl.GoalsMissing(kinds, 7); got != 2 || !ok {
		t.Error("GoalsMissing", got, ok)
	}
}

func TestAreKinds(t *testing.T) {
	all := everyKinds()
	if len(all) != 20+190+1140+4845+15504 {
		t.Fatal("there are", len(all), "kinds")
	}
	for _, kinds := range all {
		if !impl.AreKinds(kinds) {
			t.Errorf("AreKinds(%v) = false", kinds)
		}
	}
	for _, list := range wildKinds {
		if impl.AreKinds(list) {
			t.Errorf("AreKinds(%v)", list)
		}
	}
	numbers := append([]int{5, 19, 22}, wildInts...)
	for _, x := range numbers {
		one := x >= 1 && x <= 20
		if impl.AreKinds([]int{x}) != one {
			t.Errorf("AreKinds of %d", x)
		}
		for _, y := range numbers {
			two := one && y > x && y <= 20
			if impl.AreKinds([]int{x, y}) != two {
				t.Errorf("AreKinds of %d and %d", x, y)
			}
			for _, z := range numbers {
				if impl.AreKinds([]int{x, y, z}) != (two && z > y && z <= 20) {
					t.Errorf("AreKinds of %d, %d and %d", x, y, z)
				}
			}
		}
	}
	if impl.AreKinds(timesOver(1<<20, 3)) {
		t.Error("AreKinds of a long list")
	}
}

func TestScoresOfKinds(t *testing.T) {
	for _, kinds := range someKinds() {
		for score := range 41 {
			checkScore(t, kinds, score)
		}
		if len(kinds) < 5 || kinds[0] > 2 {
			for score := 41; score <= 200; score += 3 {
				checkScore(t, kinds, score)
			}
		}
		checkScore(t, kinds, 199)
		checkScore(t, kinds, 200)
	}
	r := rand.New(rand.NewSource(5))
	for range 400 {
		kinds := randomKinds(r)
		for range 5 {
			checkScore(t, kinds, r.Intn(61))
		}
	}
}

// TestFirstGoals holds scores for which the greatest goal first is not the fewest, and lists among equally few.
func TestFirstGoals(t *testing.T) {
	for _, c := range []struct {
		kinds []int
		score int
		want  []int
	}{
		{[]int{2, 3, 7}, 0, []int{0, 0, 0}}, {[]int{1}, 0, []int{0}}, {[]int{1}, 200, []int{200}}, {[]int{20}, 200, []int{10}}, {[]int{1, 20}, 199, []int{19, 9}},
		{[]int{1, 3, 4}, 6, []int{0, 2, 0}}, {[]int{1, 5, 6, 9}, 10, []int{1, 0, 0, 1}}, {[]int{4, 5, 6}, 10, []int{1, 0, 1}}, {[]int{1, 4, 6, 9}, 10, []int{1, 0, 0, 1}},
		{[]int{3, 4, 5, 6}, 9, []int{1, 0, 0, 1}}, {[]int{1, 2, 3, 4, 5}, 8, []int{0, 0, 1, 0, 1}}, {[]int{4, 5, 6, 7, 8}, 15, []int{0, 0, 0, 1, 1}}, {[]int{5, 6, 8, 9}, 14, []int{1, 0, 0, 1}},
		{[]int{2, 5, 6, 9}, 11, []int{1, 0, 0, 1}}, {[]int{3, 5, 9, 10, 16}, 19, []int{1, 0, 0, 0, 1}}, {[]int{4, 9, 11, 13, 18}, 22, []int{1, 0, 0, 0, 1}}, {[]int{7, 8, 9, 10}, 26, []int{1, 0, 1, 1}},
	} {
		if got, ok := impl.FirstGoals(c.kinds, c.score); !slices.Equal(got, c.want) || !ok {
			t.Errorf("FirstGoals(%v, %d) = %v %v, want %v", c.kinds, c.score, got, ok, c.want)
		}
	}
	for _, c := range []struct {
		kinds []int
		score int
	}{{[]int{2}, 1}, {[]int{2}, 199}, {[]int{20}, 19}, {[]int{2, 3, 7}, 1}, {[]int{19, 20}, 18}, {[]int{16, 17, 18, 19, 20}, 15}, {[]int{4, 8, 12, 16, 20}, 198}} {
		if got, ok := impl.FirstGoals(c.kinds, c.score); len(got) != 0 || ok {
			t.Errorf("FirstGoals(%v, %d) = %v %v", c.kinds, c.score, got, ok)
		}
		if got, ok := impl.FewestGoals(c.kinds, c.score); got != 0 || ok {
			t.Errorf("FewestGoals(%v, %d) = %d %v", c.kinds, c.score, got, ok)
		}
		if got, ok := impl.CanReach(c.kinds, c.score); got || !ok {
			t.Errorf("CanReach(%v, %d) = %v %v", c.kinds, c.score, got, ok)
		}
		for _, x := range scoreCalls()[1:3] {
			if got, ok := x.call(c.kinds, c.score); got != 0 || !ok {
				t.Errorf("%s(%v, %d) = %d %v", x.name, c.kinds, c.score, got, ok)
			}
		}
	}
}

// reachedUpTo marks the scores up to most that goals can score: 0, and what is so many points behind one.
func reachedUpTo(kinds []int, most int) []bool {
	reached := make([]bool, most+1)
	reached[0] = true
	for score, can := range reached {
		for _, points := range kinds {
			if can && score+points <= most {
				reached[score+points] = true
			}
		}
	}
	return reached
}

func commonDivisor(kinds ...int) int {
	divisor := 20
	for slices.ContainsFunc(kinds, func(points int) bool { return points%divisor > 0 }) {
		divisor--
	}
	return divisor
}

// TestNotReachedOfAllKinds holds promise 5 for what cannot be reached.
func TestNotReachedOfAllKinds(t *testing.T) {
	for i, kinds := range everyKinds() {
		var out []int
		for score, can := range reachedUpTo(kinds, 600) {
			if !can {
				out = append(out, score)
			}
		}
		want := 0
		if commonDivisor(kinds...) == 1 && len(out) > 0 {
			want = out[len(out)-1]
		}
		if got, ok := impl.GreatestNotReached(kinds); got != want || ok != (want > 0) {
			t.Errorf("GreatestNotReached(%v) = %d %v, want %d", kinds, got, ok, want)
		}
		for _, most := range []int{0, 1, 19, 20, 199, 200, i % 201} {
			end, _ := slices.BinarySearch(out, most+1)
			if got, ok := impl.NotReached(kinds, most); !slices.Equal(got, out[:end]) || !ok {
				t.Errorf("NotReached(%v, %d) = %v %v, want %v", kinds, most, got, ok, out[:end])
			}
		}
	}
}

func TestGreatestNotReached(t *testing.T) {
	for p := 2; p <= 20; p++ {
		for q := p + 1; q <= 20; q++ {
			want := p*q - p - q
			if commonDivisor(p, q) > 1 {
				want = 0
			}
			if got, ok := impl.GreatestNotReached([]int{p, q}); got != want || ok != (want > 0) {
				t.Errorf("GreatestNotReached of %d and %d = %d %v, want %d", p, q, got, ok, want)
			}
		}
	}
	for _, c := range []struct {
		kinds []int
		want  int
	}{
		{[]int{19, 20}, 341}, {[]int{17, 20}, 303}, {[]int{6, 10, 15}, 29}, {[]int{6, 9, 20}, 43}, {[]int{12, 15, 20}, 73}, {[]int{2, 3, 7}, 1}, {[]int{18, 19, 20}, 161}, {[]int{2, 19}, 17},
		{[]int{4, 6, 10, 20}, 0}, {[]int{6, 15}, 0}, {[]int{5}, 0}, {[]int{20}, 0}, {[]int{5, 10, 15, 20}, 0}, {[]int{1}, 0}, {[]int{1, 2}, 0}, {[]int{1, 5, 10, 15, 20}, 0},
	} {
		if got, ok := impl.GreatestNotReached(c.kinds); got != c.want || ok != (c.want > 0) {
			t.Errorf("GreatestNotReached(%v) = %d %v, want %d", c.kinds, got, ok, c.want)
		}
	}
	if got, ok := impl.NotReached([]int{1}, 200); len(got) != 0 || !ok {
		t.Error("NotReached of 1", got, ok)
	}
}

// bigTable holds by n and then by s in how many orders n goals score s points, however many these are.
type bigTable [][]*big.Int

func goalOrders(kinds []int, goals, score int) bigTable {
	table := make(bigTable, goals+1)
	for n := range table {
		table[n] = make([]*big.Int, score+1)
		for s := range table[n] {
			table[n][s] = new(big.Int)
			for _, points := range kinds {
				if n > 0 && points <= s {
					table[n][s].Add(table[n][s], table[n-1][s-points])
				}
			}
		}
		if n == 0 {
			table[0][0].SetInt64(1)
		}
	}
	return table
}

// gamesByGoals counts the games of a result by how many goals each side has, and where these can stand among all.
func gamesByGoals(orders bigTable, a, b int) *big.Int {
	games := new(big.Int)
	for n := range 61 {
		for m := range 61 - n {
			if orders[n][a].Sign() > 0 && orders[m][b].Sign() > 0 {
				many := new(big.Int).Binomial(int64(n+m), int64(n))
				many.Mul(many, orders[n][a])
				games.Add(games, many.Mul(many, orders[m][b]))
			}
		}
	}
	return games
}

// lastGoals counts games from their end: each has a last goal, and so many goals at most.
type lastGoals struct {
	kinds []int
	known map[[3]int]*big.Int
}

func (l lastGoals) neverBehind(a, b, goals int) *big.Int {
	if b < 0 || a < b || goals < 0 {
		return new(big.Int)
	}
	key := [3]int{a, b, goals}
	if known := l.known[key]; known != nil {
		return known
	}
	games := new(big.Int)
	if a == 0 {
		games.SetInt64(1)
	}
	for _, points := range l.kinds {
		games.Add(games, l.neverBehind(a-points, b, goals-1))
		games.Add(games, l.neverBehind(a, b-points, goals-1))
	}
	l.known[key] = games
	return games
}

// checkCount holds a count up to MaxGames, and that a greater one fails.
func checkCount(t *testing.T, what string, got int, ok bool, want *big.Int) {
	t.Helper()
	checkLimited(t, what, got, ok, want, impl.MaxGames)
}

// checkLimited holds a count up to the most that may be, and that a greater one fails.
func checkLimited(t *testing.T, what string, got int, ok bool, want *big.Int, most int64) {
	t.Helper()
	if want.Cmp(big.NewInt(most)) > 0 {
		if ok || got != 0 {
			t.Errorf("%s = %d %v, but they are more than %d", what, got, ok, most)
		}
	} else if !ok || int64(got) != want.Int64() {
		t.Errorf("%s = %d %v, want %v", what, got, ok, want)
	}
}

func nameOf(call string, kinds []int, numbers ...int) string {
	text := call + " of"
	for _, n := range kinds {
		text += " " + strconv.Itoa(n)
	}
	text += ":"
	for _, n := range numbers {
		text += " " + strconv.Itoa(n)
	}
	return text
}

// TestGoalOrders adds the orders up by how many goals they have.
func TestGoalOrders(t *testing.T) {
	r := rand.New(rand.NewSource(55))
	all := someKinds()
	for range 20 {
		all = append(all, randomKinds(r))
	}
	for _, kinds := range all {
		orders := goalOrders(kinds, 200, 200)
		for score := range 201 {
			want := new(big.Int)
			for n := range orders {
				want.Add(want, orders[n][score])
			}
			got, ok := impl.CountGoalOrders(kinds, score)
			checkCount(t, nameOf("CountGoalOrders", kinds, score), got, ok, want)
		}
	}
}

// TestOrdersAtMaxGames holds counts that are known, and those next to MaxGames, which none of any kinds meets exactly.
func TestOrdersAtMaxGames(t *testing.T) {
	for _, c := range []struct {
		kinds []int
		score int
		want  int
	}{
		{[]int{1}, 0, 1}, {[]int{20}, 0, 1}, {[]int{1}, 200, 1}, {[]int{20}, 200, 1}, {[]int{20}, 190, 0}, {[]int{1, 2}, 5, 8}, {[]int{1, 2}, 72, 806515533049393}, {[]int{2, 4}, 144, 806515533049393},
		{[]int{2, 4}, 145, 0}, {[]int{1, 8, 9, 16, 18}, 134, 999989083550656},
	} {
		if got, ok := impl.CountGoalOrders(c.kinds, c.score); got != c.want || !ok {
			t.Errorf("CountGoalOrders(%v, %d) = %d %v, want %d", c.kinds, c.score, got, ok, c.want)
		}
	}
	for _, c := range []struct {
		kinds []int
		score int
	}{
		{[]int{1, 2}, 73}, {[]int{1, 2}, 91}, {[]int{1, 2}, 92}, {[]int{1, 2}, 200}, {[]int{2, 4}, 146}, {[]int{1, 7, 11, 12, 16}, 129}, {[]int{1, 2, 3, 4, 5}, 200},
	} {
		if got, ok := impl.CountGoalOrders(c.kinds, c.score); got != 0 || ok {
			t.Errorf("CountGoalOrders(%v, %d) = %d %v", c.kinds, c.score, got, ok)
		}
	}
}

// beyond stands for a count that is greater than MaxGames.
const beyond = -1

// TestKnownGoalGames holds counts that are known, those next to MaxGames, which none of any kinds meets exactly, and that games end with MaxGoals.
func TestKnownGoalGames(t *testing.T) {
	for _, c := range []struct {
		kinds        []int
		a, b         int
		games, never int
	}{
		{[]int{1}, 0, 0, 1, 1}, {[]int{20}, 0, 0, 1, 1}, {[]int{20}, 200, 200, 184756, 16796}, {[]int{20}, 200, 180, 92378, 16796}, {[]int{20}, 180, 200, 92378, 0}, {[]int{2}, 1, 1, 0, 0}, {[]int{2}, 1, 0, 0, 0},
		{[]int{1}, 26, 27, 973469712824056, 0}, {[]int{1}, 27, 26, 973469712824056, 69533550916004}, {[]int{1}, 27, 27, beyond, 69533550916004}, {[]int{1}, 28, 28, beyond, 263747951750360},
		{[]int{1}, 29, 29, beyond, beyond}, {[]int{4}, 116, 116, beyond, beyond}, {[]int{1}, 30, 30, beyond, beyond}, {[]int{1}, 31, 29, beyond, beyond}, {[]int{1}, 29, 31, beyond, 0},
		{[]int{1}, 31, 30, 0, 0}, {[]int{1}, 30, 31, 0, 0}, {[]int{1}, 60, 0, 1, 1}, {[]int{1}, 61, 0, 0, 0}, {[]int{1}, 0, 60, 1, 0}, {[]int{1}, 0, 61, 0, 0}, {[]int{1}, 59, 1, 60, 59}, {[]int{1}, 60, 1, 0, 0},
		{[]int{1}, 58, 2, 1770, 1710}, {[]int{1}, 200, 200, 0, 0}, {[]int{2}, 120, 0, 1, 1}, {[]int{2}, 121, 0, 0, 0}, {[]int{2}, 122, 0, 0, 0}, {[]int{2}, 118, 2, 60, 59}, {[]int{3}, 180, 0, 1, 1}, {[]int{3}, 183, 0, 0, 0},
		// Of the lists of goals that score 80, those of 42, of 23 and of 4 goals are games, those of 61 and of 80 are none; 79 has lists of 60, of 41 and of 22 goals.
		{[]int{1, 20}, 80, 0, 861 + 1771 + 1, 861 + 1771 + 1}, {[]int{1, 20}, 79, 0, 60 + 820 + 1540, 60 + 820 + 1540},
		{[]int{1, 2}, 118, 0, 1 + 1770, 1 + 1770}, {[]int{1, 2}, 119, 0, 60, 60}, {[]int{1, 2}, 120, 0, 1, 1}, {[]int{1, 2}, 121, 0, 0, 0}, {[]int{1, 2}, 0, 119, 60, 0}, {[]int{1, 2}, 118, 1, 60, 59},
		{[]int{1, 2}, 118, 2, 60, 59}, {[]int{1, 2}, 119, 2, 0, 0}, {[]int{1, 2, 3, 4, 5}, 200, 101, 0, 0}, {[]int{1, 2, 3, 4, 5}, 200, 100, beyond, beyond}, {[]int{1, 2, 3, 4, 5}, 200, 200, 0, 0},
	} {
		checkKnownCount(t, "CountGames", impl.CountGames, c.kinds, c.a, c.b, c.games)
		checkKnownCount(t, "CountNeverBehind", impl.CountNeverBehind, c.kinds, c.a, c.b, c.never)
	}
	checkKnownCount(t, "CountGames", impl.CountGames, []int{6, 7, 11, 14, 18}, 147, 31, 999999656571824)
	checkKnownCount(t, "CountGames", impl.CountGames, []int{8, 9, 12, 13, 17}, 96, 96, beyond) // 1000000298985116
	checkKnownCount(t, "CountNeverBehind", impl.CountNeverBehind, []int{2, 14, 15, 16}, 152, 21, 999999811280142)
	checkKnownCount(t, "CountNeverBehind", impl.CountNeverBehind, []int{7, 14, 16, 19, 20}, 171, 75, beyond) // 1000000443741703
}

func checkKnownCount(t *testing.T, name string, call func([]int, int, int) (int, bool), kinds []int, a, b, want int) {
	t.Helper()
	if got, ok := call(kinds, a, b); got != max(want, 0) || ok != (want != beyond) {
		t.Errorf("%s(%v, %d, %d) = %d %v, want %d", name, kinds, a, b, got, ok, want)
	}
}

// TestCountsOfGames holds promise 5 for counts of games: for many results, with numbers as great as they come.
func TestCountsOfGames(t *testing.T) {
	r := rand.New(rand.NewSource(555))
	for _, kinds := range someKinds() {
		orders := goalOrders(kinds, 60, 200)
		last := lastGoals{kinds: kinds, known: map[[3]int]*big.Int{}}
		for range 40 {
			a, b := r.Intn(60), r.Intn(60)
			checkResult(t, kinds, a, b, gamesByGoals(orders, a, b), last.neverBehind(a, b, 60))
		}
		for range 20 {
			a, b := r.Intn(201), r.Intn(201)
			got, ok := impl.CountGames(kinds, a, b)
			checkCount(t, nameOf("CountGames", kinds, a, b), got, ok, gamesByGoals(orders, a, b))
		}
	}
}

func checkResult(t *testing.T, kinds []int, a, b int, games, never *big.Int) {
	t.Helper()
	got, ok := impl.CountGames(kinds, a, b)
	checkCount(t, nameOf("CountGames", kinds, a, b), got, ok, games)
	got, ok = impl.CountNeverBehind(kinds, a, b)
	checkCount(t, nameOf("CountNeverBehind", kinds, a, b), got, ok, never)
}

// goalWalk is what a game comes to, goal by goal.
type goalWalk struct {
	scores     [][]int
	turns      int
	mostA      int
	mostB      int
	aheadA     int
	aheadB     int
	neverBelow bool
}

// walkGoals tells a game goal by goal. It fails at the first letter that is no goal, and behind MaxGoals.
func walkGoals(kinds []int, game string) (goalWalk, bool) {
	a, b, leader := 0, 0, ""
	w := goalWalk{scores: [][]int{{0, 0}}, neverBelow: true}
	for i, letter := range []byte(game) {
		switch small, great := int(letter)-'a', int(letter)-'A'; {
		case i >= 60:
			return goalWalk{}, false
		case small >= 0 && small < len(kinds):
			a += kinds[small]
		case great >= 0 && great < len(kinds):
			b += kinds[great]
		default:
			return goalWalk{}, false
		}
		w.scores = append(w.scores, []int{a, b})
		if a > b {
			w.aheadA++
			w.mostA = max(w.mostA, a-b)
			if leader == "second" {
				w.turns++
			}
			leader = "first"
		}
		if b > a {
			w.aheadB++
			w.mostB = max(w.mostB, b-a)
			w.neverBelow = false
			if leader == "first" {
				w.turns++
			}
			leader = "second"
		}
	}
	return w, true
}

func turned(game string) string {
	return strings.NewReplacer("a", "A", "b", "B", "c", "C", "d", "D", "e", "E", "A", "a", "B", "b", "C", "c", "D", "d", "E", "e").Replace(game)
}

// checkGoalGame holds promise 5 for a text, which is a game or none.
func checkGoalGame(t *testing.T, kinds []int, game string) {
	t.Helper()
	w, fine := walkGoals(kinds, game)
	if got, ok := impl.IsGame(kinds, game); got != fine || !ok {
		t.Errorf("IsGame(%v, %.80q) = %v %v", kinds, game, got, ok)
	}
	if !fine {
		checkNoGame(t, kinds, game)
		return
	}
	end := w.scores[len(w.scores)-1]
	if a, b, ok := impl.ResultOf(kinds, game); a != end[0] || b != end[1] || !ok {
		t.Errorf("ResultOf(%v, %q) = %d %d %v, want %v", kinds, game, a, b, ok, end)
	}
	if got, ok := impl.ScoresOn(kinds, game); !slices.EqualFunc(got, w.scores, slices.Equal[[]int]) || !ok {
		t.Errorf("ScoresOn(%v, %q) = %v %v, want %v", kinds, game, got, ok, w.scores)
	}
	if got, ok := impl.LeadTurns(kinds, game); got != w.turns || !ok {
		t.Errorf("LeadTurns(%v, %q) = %d %v, want %d", kinds, game, got, ok, w.turns)
	}
	if a, b, ok := impl.GreatestLead(kinds, game); a != w.mostA || b != w.mostB || !ok {
		t.Errorf("GreatestLead(%v, %q) = %d %d %v, want %d %d", kinds, game, a, b, ok, w.mostA, w.mostB)
	}
	if a, b, ok := impl.GoalsAhead(kinds, game); a != w.aheadA || b != w.aheadB || !ok {
		t.Errorf("GoalsAhead(%v, %q) = %d %d %v, want %d %d", kinds, game, a, b, ok, w.aheadA, w.aheadB)
	}
	if got, ok := impl.TurnGame(kinds, game); got != turned(game) || !ok {
		t.Errorf("TurnGame(%v, %q) = %q %v", kinds, game, got, ok)
	}
}

// checkNoGame holds that every function of games fails for what is none, with zero results.
func checkNoGame(t *testing.T, kinds []int, game string) {
	t.Helper()
	if a, b, ok := impl.ResultOf(kinds, game); a != 0 || b != 0 || ok {
		t.Errorf("ResultOf(%v, %.80q) = %d %d %v", kinds, game, a, b, ok)
	}
	if got, ok := impl.ScoresOn(kinds, game); len(got) != 0 || ok {
		t.Errorf("ScoresOn(%v, %.80q) = %v %v", kinds, game, got, ok)
	}
	if got, ok := impl.LeadTurns(kinds, game); got != 0 || ok {
		t.Errorf("LeadTurns(%v, %.80q) = %d %v", kinds, game, got, ok)
	}
	if a, b, ok := impl.GreatestLead(kinds, game); a != 0 || b != 0 || ok {
		t.Errorf("GreatestLead(%v, %.80q) = %d %d %v", kinds, game, a, b, ok)
	}
	if a, b, ok := impl.GoalsAhead(kinds, game); a != 0 || b != 0 || ok {
		t.Errorf("GoalsAhead(%v, %.80q) = %d %d %v", kinds, game, a, b, ok)
	}
	if got, ok := impl.TurnGame(kinds, game); got != "" || ok {
		t.Errorf("TurnGame(%v, %.80q) = %q %v", kinds, game, got, ok)
	}
}

// TestAllShortGoalGames reads all short texts, letters beyond the kinds and letters that are none among them.
func TestAllShortGoalGames(t *testing.T) {
	texts := append(everyText("aAbBcC", 4), everyText("aAbB", 6)...)
	texts = append(texts, everyText("aA", 10)...)
	texts = append(texts, everyText("eEfF@`", 3)...)
	for _, kinds := range [][]int{{1}, {20}, {1, 2}, {2, 3}, {2, 3, 7}, {1, 2, 3, 4}, {3, 5, 7, 11, 20}} {
		for _, game := range texts {
			checkGoalGame(t, kinds, game)
		}
	}
}

// TestCountsOfShortGames holds promise 5 for counts of games: all games of small results are played.
func TestCountsOfShortGames(t *testing.T) {
	const most = 7
	for _, kinds := range [][]int{{1}, {2}, {1, 2}, {2, 3}, {1, 3}, {2, 3, 7}, {1, 2, 3, 4, 5}, {3, 7}, {20}} {
		var games, never [most + 1][most + 1]int64
		var play func(game string)
		play = func(game string) {
			w, _ := walkGoals(kinds, game)
			end := w.scores[len(w.scores)-1]
			if end[0] > most || end[1] > most || end[0]+end[1] > most+4 {
				return
			}
			games[end[0]][end[1]]++
			if w.neverBelow {
				never[end[0]][end[1]]++
			}
			for kind := range kinds {
				play(game + "abcde"[kind:kind+1])
				play(game + "ABCDE"[kind:kind+1])
			}
		}
		play("")
		for a := range most + 1 {
			for b := range min(most, most+4-a) + 1 {
				checkResult(t, kinds, a, b, big.NewInt(games[a][b]), big.NewInt(never[a][b]))
			}
		}
	}
}

func randomGoals(r *rand.Rand, kinds []int, goals int) string {
	game := ""
	for range goals {
		kind := r.Intn(len(kinds))
		game += []string{"abcde", "ABCDE"}[r.Intn(2)][kind : kind+1]
	}
	return game
}

func TestRandomGoalGames(t *testing.T) {
	r := rand.New(rand.NewSource(5555))
	for range 3000 {
		kinds := randomKinds(r)
		game := randomGoals(r, kinds, r.Intn(61))
		checkGoalGame(t, kinds, game)
		spoiled := []byte(game + "a")
		spoiled[r.Intn(len(spoiled))] = byte(r.Intn(256))
		checkGoalGame(t, kinds, string(spoiled))
		checkTurnedGame(t, kinds, game)
	}
}

// checkTurnedGame holds that the sides of a game and what it comes to are exchanged.
func checkTurnedGame(t *testing.T, kinds []int, game string) {
	t.Helper()
	turn, _ := impl.TurnGame(kinds, game)
	a, b, _ := impl.ResultOf(kinds, game)
	if x, y, ok := impl.ResultOf(kinds, turn); x != b || y != a || !ok {
		t.Errorf("ResultOf(%v, %q) = %d %d %v, want %d %d", kinds, turn, x, y, ok, b, a)
	}
	if back, ok := impl.TurnGame(kinds, turn); back != game || !ok {
		t.Errorf("TurnGame(%v, %q) = %q %v, want %q", kinds, turn, back, ok, game)
	}
}

func TestGamesOfMaxGoals(t *testing.T) {
	for _, kinds := range [][]int{{1}, {20}, {1, 20}, {16, 17, 18, 19, 20}} {
		top := len(kinds) - 1
		for _, letter := range []string{"a", "A", "abcde"[top : top+1], "ABCDE"[top : top+1]} {
			for _, goals := range []int{59, 60, 61, 62, 1 << 20} {
				checkGoalGame(t, kinds, strings.Repeat(letter, goals))
			}
			checkGoalGame(t, kinds, strings.Repeat(letter, 60)+"?")
			checkGoalGame(t, kinds, strings.Repeat(letter, 59)+"?")
			checkGoalGame(t, kinds, strings.Repeat(letter, 60)+"\x00")
		}
	}
	if a, b, ok := impl.ResultOf([]int{20}, strings.Repeat("a", 60)); a != 1200 || b != 0 || !ok {
		t.Error("ResultOf of MaxGoals goals of MaxPoints", a, b, ok)
	}
	if a, b, ok := impl.GreatestLead([]int{20}, strings.Repeat("A", 60)); a != 0 || b != 1200 || !ok {
		t.Error("GreatestLead of MaxGoals goals of MaxPoints", a, b, ok)
	}
	if is, ok := impl.IsGame([]int{1}, strings.Repeat("a", 61)); is || !ok {
		t.Error("IsGame of a goal more than MaxGoals", is, ok)
	}
	if turns, ok := impl.LeadTurns([]int{1, 2}, "a"+strings.Repeat("Bb", 29)+"B"); turns != 59 || !ok {
		t.Error("LeadTurns with each goal", turns, ok)
	}
}

func TestGameWithoutAGoal(t *testing.T) {
	for _, kinds := range someKinds() {
		checkGoalGame(t, kinds, "")
		if is, ok := impl.IsGame(kinds, ""); !is || !ok {
			t.Errorf("IsGame(%v) of no goal = %v %v", kinds, is, ok)
		}
		if got, ok := impl.ScoresOn(kinds, ""); !slices.EqualFunc(got, [][]int{{0, 0}}, slices.Equal[[]int]) || !ok {
			t.Errorf("ScoresOn(%v) of no goal = %v %v", kinds, got, ok)
		}
		if got, ok := impl.TurnGame(kinds, ""); got != "" || !ok {
			t.Errorf("TurnGame(%v) of no goal = %q %v", kinds, got, ok)
		}
	}
}

// TestLeads holds scores that are even at first, between leads of one side, and between turns of the lead.
func TestLeads(t *testing.T) {
	kinds := []int{1, 2, 3}
	for _, c := range []struct {
		game                                string
		turns, mostA, mostB, aheadA, aheadB int
	}{
		{"a", 0, 1, 0, 1, 0}, {"A", 0, 0, 1, 0, 1}, {"aA", 0, 1, 0, 1, 0}, {"aAa", 0, 1, 0, 2, 0}, {"aAA", 1, 1, 1, 1, 1}, {"AaA", 0, 0, 1, 0, 2}, {"Aaa", 1, 1, 1, 1, 1}, {"aAAaa", 2, 1, 1, 2, 1},
		{"aB", 1, 1, 1, 1, 1}, {"aBb", 2, 1, 1, 2, 1}, {"aAaAaA", 0, 1, 0, 3, 0}, {"aAAaAa", 1, 1, 1, 1, 2}, {"cCcC", 0, 3, 0, 2, 0}, {"abC", 0, 3, 0, 2, 0}, {"abCAb", 2, 3, 1, 3, 1}, {"CbaA", 0, 0, 3, 0, 3},
	} {
		checkGoalGame(t, kinds, c.game)
		if got, ok := impl.LeadTurns(kinds, c.game); got != c.turns || !ok {
			t.Errorf("LeadTurns of %s = %d %v, want %d", c.game, got, ok, c.turns)
		}
		if a, b, ok := impl.GreatestLead(kinds, c.game); a != c.mostA || b != c.mostB || !ok {
			t.Errorf("GreatestLead of %s = %d %d %v", c.game, a, b, ok)
		}
		if a, b, ok := impl.GoalsAhead(kinds, c.game); a != c.aheadA || b != c.aheadB || !ok {
			t.Errorf("GoalsAhead of %s = %d %d %v", c.game, a, b, ok)
		}
	}
}

// TestGoalsMissing scores the greatest kind until it leads.
func TestGoalsMissing(t *testing.T) {
	for _, kinds := range someKinds() {
		for behind := range 201 {
			goals, points := 0, 0
			for points <= behind {
				points += kinds[len(kinds)-1]
				goals++
			}
			if got, ok := impl.GoalsMissing(kinds, behind); got != goals || !ok {
				t.Errorf("GoalsMissing(%v, %d) = %d %v, want %d", kinds, behind, got, ok, goals)
			}
		}
	}
}

func TestKindsTexts(t *testing.T) {
	for _, kinds := range everyKinds() {
		text := ""
		for _, points := range kinds {
			text += "-" + strconv.Itoa(points)
		}
		text = text[1:]
		if got, ok := impl.KindsText(kinds); got != text || !ok {
			t.Errorf("KindsText(%v) = %q %v", kinds, got, ok)
		}
		if got, ok := impl.ParseKinds(text); !slices.Equal(got, kinds) || !ok {
			t.Errorf("ParseKinds(%q) = %v %v", text, got, ok)
		}
	}
	for _, text := range everyText("01-2+", 5) {
		kinds, ok := impl.ParseKinds(text)
		if again, fine := impl.KindsText(kinds); ok != fine || ok && again != text || !ok && len(kinds) > 0 {
			t.Errorf("ParseKinds(%q) = %v %v", text, kinds, ok)
		}
	}
}

func TestTextsOfNoKinds(t *testing.T) {
	for _, text := range []string{
		"", "-", "--", "0", "21", "00", "01", "2-03", "+2", "-2", "2-", "-2-3", "2--3", "2-3-", "2-2", "3-2", "2,3", "2 3", " 2", "2 ", "2-3\n", "2-x", "x", "a", "2\x00", "0x2", "2.0", "1e1", "1_0", "٣", "２", "2−3", "2–3", "\xff",
		"2-3-7-7", "7-3-2", "0-2-3", "2-3-21", "1-2-3-4-5-6", "1-2-3-4-5-5", "99999999999999999999", "18446744073709551618", "9223372036854775807", "-9223372036854775808", "2-18446744073709551619",
		strings.Repeat("1", 1<<20), strings.Repeat("-", 1<<20), "2-3" + strings.Repeat("-", 1<<20), strings.Repeat("2-", 1<<20) + "3", strings.Repeat("0", 1<<20) + "2",
	} {
		if got, ok := impl.ParseKinds(text); len(got) != 0 || ok {
			t.Errorf("ParseKinds(%.60q) = %v %v", text, got, ok)
		}
	}
}

// TestWildKinds holds promise 11: what are no kinds fails everywhere, with zero results.
func TestWildKinds(t *testing.T) {
	for _, list := range append([][]int{timesOver(1<<20, 1), wildInts}, wildKinds...) {
		for _, n := range append([]int{5, 12, 199, 200, 201}, wildInts...) {
			checkNoScore(t, list, n)
			for _, x := range resultCalls() {
				if got, ok := x.call(list, n, 2); got != 0 || ok {
					t.Errorf("%s(%.60v, %d, 2) = %d %v", x.name, list, n, got, ok)
				}
			}
		}
		for _, game := range []string{"", "a", "A", "aCb", "x", strings.Repeat("a", 61)} {
			if is, ok := impl.IsGame(list, game); is || ok {
				t.Errorf("IsGame(%.60v, %q) = %v %v", list, game, is, ok)
			}
			checkNoGame(t, list, game)
		}
		if got, ok := impl.GreatestNotReached(list); got != 0 || ok {
			t.Errorf("GreatestNotReached(%.60v) = %d %v", list, got, ok)
		}
		if got, ok := impl.KindsText(list); got != "" || ok {
			t.Errorf("KindsText(%.60v) = %q %v", list, got, ok)
		}
	}
}

// checkNoScore holds that every function of kinds and a score fails, with zero results.
func checkNoScore(t *testing.T, kinds []int, score int) {
	t.Helper()
	if got, ok := impl.CanReach(kinds, score); got || ok {
		t.Errorf("CanReach(%.60v, %d) = %v %v", kinds, score, got, ok)
	}
	if got, ok := impl.FirstGoals(kinds, score); len(got) != 0 || ok {
		t.Errorf("FirstGoals(%.60v, %d) = %v %v", kinds, score, got, ok)
	}
	if got, ok := impl.NotReached(kinds, score); len(got) != 0 || ok {
		t.Errorf("NotReached(%.60v, %d) = %v %v", kinds, score, got, ok)
	}
	for _, x := range scoreCalls() {
		if got, ok := x.call(kinds, score); got != 0 || ok {
			t.Errorf("%s(%.60v, %d) = %d %v", x.name, kinds, score, got, ok)
		}
	}
}

func TestWildScores(t *testing.T) {
	for _, kinds := range someKinds() {
		for _, n := range append([]int{201, 202, 400, 1200, -200, -20}, wildInts...) {
			if n >= 0 && n <= 200 {
				continue
			}
			checkNoScore(t, kinds, n)
			for _, x := range resultCalls() {
				for _, other := range []int{0, 20, 200, 201, n} {
					if got, ok := x.call(kinds, n, other); got != 0 || ok {
						t.Errorf("%s(%v, %d, %d) = %d %v", x.name, kinds, n, other, got, ok)
					}
					if got, ok := x.call(kinds, other, n); got != 0 || ok {
						t.Errorf("%s(%v, %d, %d) = %d %v", x.name, kinds, other, n, got, ok)
					}
				}
			}
		}
	}
}

// callGoals calls every function that takes kinds.
func callGoals(kinds []int) {
	impl.AreKinds(kinds)
	impl.CanReach(kinds, 12)
	impl.FirstGoals(kinds, 12)
	impl.NotReached(kinds, 20)
	impl.GreatestNotReached(kinds)
	impl.KindsText(kinds)
	for _, x := range scoreCalls() {
		x.call(kinds, 12)
	}
	for _, x := range resultCalls() {
		x.call(kinds, 12, 7)
	}
	for _, game := range []string{"", "aCb", "aaA", "x", strings.Repeat("a", 61)} {
		impl.IsGame(kinds, game)
		impl.ResultOf(kinds, game)
		impl.ScoresOn(kinds, game)
		impl.LeadTurns(kinds, game)
		impl.GreatestLead(kinds, game)
		impl.GoalsAhead(kinds, game)
		impl.TurnGame(kinds, game)
	}
}

// TestKindsAreKept holds promise 11: kinds and the room behind them are neither written nor read.
func TestKindsAreKept(t *testing.T) {
	for _, kinds := range append([][]int{{2}, {1}, {2, 3}, {2, 3, 7}, {1, 4, 6, 9}, {4, 9, 11, 12, 20}}, wildKinds...) {
		for _, room := range [][]int{{20}, {0, 0, 0}, {8, 13, 19}, {-5, 99}} {
			whole := slices.Concat(kinds, room)
			kept := slices.Clone(whole)
			list := whole[:len(kinds)]
			callGoals(list)
			if !slices.Equal(whole, kept) {
				t.Errorf("%v became %v", kept, whole)
			}
			fine := impl.AreKinds(kinds)
			if impl.AreKinds(list) != fine {
				t.Errorf("AreKinds(%v) with room behind = %v", list, !fine)
			}
			if !fine {
				checkNoScore(t, list, 12)
				checkNoGame(t, list, "a")
				continue
			}
			checkScore(t, list, 33)
			checkGoalGame(t, list, "aAb")
			checkGoalGame(t, list, "c")
			want, _ := impl.KindsText(kinds)
			if got, ok := impl.KindsText(list); got != want || !ok {
				t.Errorf("KindsText(%v) with room behind = %q %v", list, got, ok)
			}
		}
	}
}

func TestGoalResultsAreNew(t *testing.T) {
	kinds := []int{2, 3, 7}
	scores := [][]int{{0, 0}, {2, 0}, {2, 7}, {5, 7}}
	for range 2 {
		first, _ := impl.FirstGoals(kinds, 12)
		out, _ := impl.NotReached([]int{2, 3, 7}, 20)
		read, _ := impl.ParseKinds("2-3-7")
		on, _ := impl.ScoresOn(kinds, "aCb")
		if !slices.Equal(first, []int{1, 1, 1}) || !slices.Equal(out, []int{1}) || !slices.Equal(read, kinds) || !slices.EqualFunc(on, scores, slices.Equal[[]int]) {
			t.Fatal("the results of the second call are others:", first, out, read, on)
		}
		for i := range on {
			spoil(on[i])
			for k := i + 1; k < len(on); k++ {
				if !slices.Equal(on[k], scores[k]) {
					t.Errorf("the scores %d and %d share memory", i, k)
				}
			}
		}
		spoil(first)
		spoil(out)
		spoil(read)
		if !slices.Equal(kinds, []int{2, 3, 7}) {
			t.Fatal("the kinds became", kinds)
		}
	}
}

// TestGoalsTogether holds that calls made at once do not disturb each other.
func TestGoalsTogether(t *testing.T) {
	kinds := []int{2, 3, 7}
	done := make(chan bool)
	for range 8 {
		go func() {
			fine := true
			for range 200 {
				a, b, ok := impl.ResultOf(kinds, "aCb")
				games, known := impl.CountGames(kinds, 12, 7)
				fine = fine && a == 5 && b == 7 && ok && games > 0 && known
			}
			done <- fine
		}()
	}
	for range 8 {
		if !<-done {
			t.Error("a call made beside others returned something else")
		}
	}
}
