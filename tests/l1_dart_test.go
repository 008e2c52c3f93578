package tests

import (
	"math"
	"slices"
	"strconv"
	"strings"
	"testing"

	"loop.example/g01368/impl"
)

var clock = []int{20, 1, 18, 4, 13, 6, 10, 15, 2, 17, 3, 19, 7, 16, 8, 11, 14, 9, 12, 5}

var wildInts = []int{math.MinInt, math.MinInt + 1, -1002, -1, 0, 1, 2, 3, 4, 20, 21, 25, 50, 170, 171, 1001, 1002, math.MaxInt - 1, math.MaxInt}

var wildDarts = []impl.Dart{
	{}, {Number: 1}, {Times: 1}, {Number: 0, Times: 2}, {Number: 20, Times: 4}, {Number: 21, Times: 1}, {Number: 24, Times: 2},
	{Number: 25, Times: 3}, {Number: 25}, {Number: 26, Times: 1}, {Number: 50, Times: 1}, {Number: -1, Times: 1}, {Number: 1, Times: -1},
	{Number: -25, Times: 1}, {Number: math.MaxInt, Times: 2}, {Number: math.MinInt, Times: math.MinInt}, {Number: 20, Times: math.MaxInt},
}

func d(number, times int) impl.Dart { return impl.Dart{Number: number, Times: times} }

// throws reads darts without the program's parser: "20 d10 t3".
func throws(text string) []impl.Dart {
	var list []impl.Dart
	for _, word := range strings.Fields(text) {
		times := 1 + strings.Index("dt", word[:1]) + 1
		number, err := strconv.Atoi(strings.TrimLeft(word, "dt"))
		if err != nil {
			panic(err)
		}
		list = append(list, d(number, times))
	}
	return list
}

func everyDart() []impl.Dart {
	var all []impl.Dart
	for number := 1; number <= 20; number++ {
		all = append(all, d(number, 1), d(number, 2), d(number, 3))
	}
	return append(all, d(25, 1), d(25, 2))
}

func points(list ...impl.Dart) int {
	sum := 0
	for _, x := range list {
		sum += x.Number * x.Times
	}
	return sum
}

// compareLists orders lists by their darts: greater scores first, of equal ones greater Times first.
func compareLists(a, b []impl.Dart) int {
	return slices.CompareFunc(a, b, func(x, y impl.Dart) int {
		if points(x) != points(y) {
			return points(y) - points(x)
		}
		return y.Times - x.Times
	})
}

// counted is what all lists of 1..3 darts show when each of them is looked at.
type counted struct {
	ways     [4]map[int]int
	finishes [4]map[int]int
	first    [4]map[int][]impl.Dart
}

func countAll() counted {
	var c counted
	lists := [][]impl.Dart{nil}
	for n := 1; n <= 3; n++ {
		c.ways[n], c.finishes[n], c.first[n] = map[int]int{}, map[int]int{}, map[int][]impl.Dart{}
		var longer [][]impl.Dart
		for _, l := range lists {
			for _, x := range everyDart() {
				list := append(slices.Clone(l), x)
				longer = append(longer, list)
				sum := points(list...)
				c.ways[n][sum]++
				if x.Times != 2 {
					continue
				}
				c.finishes[n][sum]++
				if old := c.first[n][sum]; old == nil || compareLists(list, old) < 0 {
					c.first[n][sum] = list
				}
			}
		}
		lists = longer
	}
	return c
}

func (c counted) fewest(left int) int {
	for n := 1; n <= 3; n++ {
		if c.finishes[n][left] > 0 {
			return n
		}
	}
	return 4
}

func TestIsDart(t *testing.T) {
	for number := -30; number <= 60; number++ {
		for times := -4; times <= 8; times++ {
			want := slices.Contains(everyDart(), d(number, times))
			if got := impl.IsDart(d(number, times)); got != want {
				t.Errorf("IsDart(%d, %d) = %v", number, times, got)
			}
		}
	}
	for _, x := range wildDarts {
		if impl.IsDart(x) {
			t.Errorf("IsDart(%v)", x)
		}
	}
}

func TestScoreOf(t *testing.T) {
	cases := []struct {
		list []impl.Dart
		want int
	}{
		{nil, 0}, {[]impl.Dart{}, 0}, {throws("1"), 1}, {throws("d25"), 50}, {throws("25"), 25}, {throws("t20 t20 d25"), 170},
		{slices.Repeat(throws("t20"), 9), 540}, {throws("1 2 3 4 5 6 7 8 9"), 45},
	}
	for _, c := range cases {
		if got, ok := impl.ScoreOf(c.list); got != c.want || !ok {
			t.Errorf("ScoreOf(%v) = %d %v", c.list, got, ok)
		}
	}
	fails := [][]impl.Dart{slices.Repeat(throws("1"), 10), slices.Repeat(throws("1"), 1000)}
	for _, x := range wildDarts {
		fails = append(fails, []impl.Dart{x}, []impl.Dart{d(1, 1), x}, []impl.Dart{x, d(20, 3)})
	}
	for _, list := range fails {
		if got, ok := impl.ScoreOf(list); got != 0 || ok {
			t.Errorf("ScoreOf(%v) = %d %v", list, got, ok)
		}
	}
}

func TestScoresOfAllLists(t *testing.T) {
	c := countAll()
	for n := 1; n <= 3; n++ {
		if got, ok := impl.CountScores(n); got != len(c.ways[n]) || !ok {
			t.Errorf("CountScores(%d) = %d %v, want %d", n, got, ok, len(c.ways[n]))
		}
		for score := 0; score <= impl.MaxLeft; score++ {
			if got, ok := impl.CountWaysTo(score, n); got != c.ways[n][score] || !ok {
				t.Errorf("CountWaysTo(%d, %d) = %d %v", score, n, got, ok)
			}
			if got, ok := impl.CanScore(score, n); got != (c.ways[n][score] > 0) || !ok {
				t.Errorf("CanScore(%d, %d) = %v %v", score, n, got, ok)
			}
		}
	}
	if got, ok := impl.CountScores(1); got != 43 || !ok {
		t.Error("CountScores(1)", got, ok)
	}
	if got, ok := impl.CountWaysTo(180, 3); got != 1 || !ok {
		t.Error("CountWaysTo(180, 3)", got, ok)
	}
	if got, ok := impl.CountWaysTo(3, 3); got != 1 || !ok {
		t.Error("CountWaysTo(3, 3)", got, ok)
	}
}

// TestFinishesOfAllLists holds promise 1 against all lists of at most three darts.
func TestFinishesOfAllLists(t *testing.T) {
	c := countAll()
	for left := 0; left <= impl.MaxLeft; left++ {
		few := c.fewest(left)
		for n := 1; n <= 3; n++ {
			if got, ok := impl.CountFinishes(left, n); got != c.finishes[n][left] || !ok {
				t.Errorf("CountFinishes(%d, %d) = %d %v", left, n, got, ok)
			}
			if got, ok := impl.CanFinish(left, n); got != (few <= n) || !ok {
				t.Errorf("CanFinish(%d, %d) = %v %v", left, n, got, ok)
			}
			got, ok := impl.FirstFinish(left, n)
			if few > n {
				if len(got) != 0 || ok {
					t.Errorf("FirstFinish(%d, %d) = %v %v, want none", left, n, got, ok)
				}
			} else if !slices.Equal(got, c.first[few][left]) || !ok {
				t.Errorf("FirstFinish(%d, %d) = %v %v, want %v", left, n, got, ok, c.first[few][left])
			}
		}
		if few > 3 {
			continue
		}
		if got, ok := impl.FewestDarts(left); got != few || !ok {
			t.Errorf("FewestDarts(%d) = %d %v", left, got, ok)
		}
	}
}

func TestFirstFinish(t *testing.T) {
	cases := []struct {
		left, darts int
		want        string
	}{
		{32, 3, "d16"}, {32, 1, "d16"}, {41, 3, "t13 d1"}, {41, 2, "t13 d1"}, {170, 3, "t20 t20 d25"}, {2, 1, "d1"}, {2, 3, "d1"}, {3, 2, "1 d1"},
		{50, 1, "d25"}, {40, 3, "d20"}, {110, 2, "t20 d25"}, {100, 2, "t20 d20"}, {5, 3, "t1 d1"}, {42, 2, "d20 d1"}, {62, 3, "t20 d1"},
	}
	for _, c := range cases {
		got, ok := impl.FirstFinish(c.left, c.darts)
		if !slices.Equal(got, throws(c.want)) || !ok {
			t.Errorf("FirstFinish(%d, %d) = %v %v, want %s", c.left, c.darts, got, ok, c.want)
		}
	}
}

func TestFinishEndsTheLeg(t *testing.T) {
	for left := 0; left <= 170; left++ {
		finish, ok := impl.FirstFinish(left, 3)
		if can, _ := impl.CanFinish(left, 3); can != ok {
			t.Errorf("CanFinish(%d) = %v, FirstFinish %v", left, can, ok)
		}
		if !ok {
			continue
		}
		if sum, fine := impl.ScoreOf(finish); sum != left || !fine {
			t.Errorf("the finish of %d has %d", left, sum)
		}
		if last := finish[len(finish)-1]; last.Times != 2 {
			t.Errorf("the finish of %d ends on %v", left, last)
		}
		if few, _ := impl.FewestDarts(left); few != len(finish) {
			t.Errorf("the finish of %d has %d darts, fewest %d", left, len(finish), few)
		}
		if after, fine := impl.LeftAfter(left, finish); after != 0 || !fine {
			t.Errorf("the finish of %d leaves %d", left, after)
		}
		if bust, fine := impl.IsBust(left, finish); bust || !fine {
			t.Errorf("the finish of %d is bust", left)
		}
	}
}

func TestFewestDartsHoweverGreat(t *testing.T) {
	want := map[int]int{}
	ends := map[int]bool{0: true}
	for n := 1; len(want) < impl.MaxLeft-1; n++ {
		next := map[int]bool{}
		for sum := range ends {
			for _, x := range everyDart() {
				if n > 1 || x.Times == 2 {
					next[sum+points(x)] = true
				}
			}
		}
		for sum := range next {
			if sum <= impl.MaxLeft && want[sum] == 0 {
				want[sum] = n
			}
		}
		ends = next
	}
	for left := 2; left <= impl.MaxLeft; left++ {
		if got, ok := impl.FewestDarts(left); got != want[left] || !ok {
			t.Errorf("FewestDarts(%d) = %d %v, want %d", left, got, ok, want[left])
		}
	}
	for left, darts := range map[int]int{169: 4, 170: 3, 171: 4, 501: 9, 1001: 17} {
		if got, ok := impl.FewestDarts(left); got != darts || !ok {
			t.Errorf("FewestDarts(%d) = %d %v, want %d", left, got, ok, darts)
		}
	}
}

func TestWhatCannotBeFinished(t *testing.T) {
	for _, left := range []int{0, 1} {
		if got, ok := impl.FewestDarts(left); got != 0 || ok {
			t.Errorf("FewestDarts(%d) = %d %v", left, got, ok)
		}
		for n := 1; n <= 3; n++ {
			if got, ok := impl.CanFinish(left, n); got || !ok {
				t.Errorf("CanFinish(%d, %d) = %v %v", left, n, got, ok)
			}
			if got, ok := impl.CountFinishes(left, n); got != 0 || !ok {
				t.Errorf("CountFinishes(%d, %d) = %v %v", left, n, got, ok)
			}
			if got, ok := impl.FirstFinish(left, n); len(got) != 0 || ok {
				t.Errorf("FirstFinish(%d, %d) = %v %v", left, n, got, ok)
			}
			if got, ok := impl.NoFinishes(left, n); len(got) != 0 || !ok {
				t.Errorf("NoFinishes(%d, %d) = %v %v", left, n, got, ok)
			}
		}
	}
	for _, left := range []int{159, 162, 163, 165, 166, 168, 169, 171, 1001} {
		if got, ok := impl.CanFinish(left, 3); got || !ok {
			t.Errorf("CanFinish(%d, 3) = %v %v", left, got, ok)
		}
		if got, ok := impl.FirstFinish(left, 3); len(got) != 0 || ok {
			t.Errorf("FirstFinish(%d, 3) = %v %v", left, got, ok)
		}
	}
}

func TestHighestFinish(t *testing.T) {
	for darts, want := range map[int]int{1: 50, 2: 110, 3: 170} {
		if got, ok := impl.HighestFinish(darts); got != want || !ok {
			t.Errorf("HighestFinish(%d) = %d %v", darts, got, ok)
		}
	}
}

func TestNoFinishes(t *testing.T) {
	want := []int{159, 162, 163, 165, 166, 168, 169}
	if got, ok := impl.NoFinishes(170, 3); !slices.Equal(got, want) || !ok {
		t.Error("NoFinishes(170, 3)", got, ok)
	}
	if got, ok := impl.NoFinishes(159, 3); !slices.Equal(got, want[:1]) || !ok {
		t.Error("NoFinishes(159, 3)", got, ok)
	}
	if got, ok := impl.NoFinishes(158, 3); len(got) != 0 || !ok {
		t.Error("NoFinishes(158, 3)", got, ok)
	}
	if got, ok := impl.NoFinishes(7, 1); !slices.Equal(got, []int{3, 5, 7}) || !ok {
		t.Error("NoFinishes(7, 1)", got, ok)
	}
	c := countAll()
	for _, most := range []int{0, 1, 2, 3, 49, 50, 51, 110, 111, 171, 1000, 1001} {
		for n := 1; n <= 3; n++ {
			var none []int
			for left := 2; left <= most; left++ {
				if c.fewest(left) > n {
					none = append(none, left)
				}
			}
			if got, ok := impl.NoFinishes(most, n); !slices.Equal(got, none) || !ok {
				t.Errorf("NoFinishes(%d, %d) = %v %v", most, n, got, ok)
			}
		}
	}
}

func TestVisits(t *testing.T) {
	cases := []struct {
		left  int
		visit string
		after int
		bust  bool
	}{
		{40, "t20", 40, true}, {40, "20 d10", 0, false}, {40, "20 20", 40, true}, {40, "20", 20, false}, {40, "d20", 0, false},
		{40, "1 1 1", 37, false}, {40, "1 1", 38, false}, {170, "t20 t20 d25", 0, false}, {170, "t20 t20 25", 25, false},
		{50, "d25", 0, false}, {50, "25 25", 50, true}, {25, "25", 25, true}, {2, "d1", 0, false}, {2, "1", 2, true}, {2, "2", 2, true},
		{3, "1", 2, false}, {3, "1 d1", 0, false}, {3, "t1", 3, true}, {3, "d1", 3, true}, {3, "2", 3, true}, {6, "t2", 6, true},
		{1, "1", 1, true}, {1, "d1", 1, true}, {1, "t20", 1, true}, {4, "d1", 2, false}, {4, "d1 d1", 0, false}, {4, "d1 1", 4, true},
		{60, "20 20 20", 60, true}, {60, "20 20 d10", 0, false}, {60, "20 20 19", 60, true}, {60, "20 20 18", 2, false},
		{62, "t20", 2, false}, {61, "t20", 61, true}, {60, "t20", 60, true}, {59, "t20", 59, true}, {1001, "t20 t20 t20", 821, false}, {1001, "1", 1000, false},
	}
	for _, c := range cases {
		if got, ok := impl.LeftAfter(c.left, throws(c.visit)); got != c.after || !ok {
			t.Errorf("LeftAfter(%d, %s) = %d %v", c.left, c.visit, got, ok)
		}
		if got, ok := impl.IsBust(c.left, throws(c.visit)); got != c.bust || !ok {
			t.Errorf("IsBust(%d, %s) = %v %v", c.left, c.visit, got, ok)
		}
	}
}

func TestVisitsThatFail(t *testing.T) {
	cases := []struct {
		left  int
		visit []impl.Dart
	}{
		{40, throws("t20 1")}, {40, throws("d20 1")}, {40, throws("20 20 1")}, {40, throws("20 d10 1")}, {40, throws("20 19 1")}, {40, throws("d20 d20 d20")},
		{1, throws("1 1")}, {2, throws("d1 d1")}, {2, throws("1 d1")}, {0, throws("1")}, {0, throws("d1")}, {0, nil}, {40, nil}, {40, []impl.Dart{}},
		{1, nil}, {1001, throws("1 1 1 1")}, {0, throws("1 1 1 1")}, {-1, throws("1")}, {1002, throws("1")}, {math.MaxInt, throws("t20")}, {math.MinInt, throws("t20")},
		{1001, slices.Repeat(throws("1"), 500)},
	}
	for _, x := range wildDarts {
		for _, visit := range [][]impl.Dart{{x}, {x, d(1, 1)}, {d(1, 1), x}, {d(20, 2), x}, {d(1, 1), d(1, 1), x}} {
			cases = append(cases, struct {
				left  int
				visit []impl.Dart
			}{40, visit})
		}
	}
	for _, c := range cases {
		if got, ok := impl.LeftAfter(c.left, c.visit); got != 0 || ok {
			t.Errorf("LeftAfter(%d, %v) = %d %v", c.left, c.visit, got, ok)
		}
		if got, ok := impl.IsBust(c.left, c.visit); got || ok {
			t.Errorf("IsBust(%d, %v) = %v %v", c.left, c.visit, got, ok)
		}
		if got, ok := impl.PlayLeg(c.left, [][]impl.Dart{c.visit}); len(got) != 0 || ok {
			t.Errorf("PlayLeg(%d, %v) = %v %v", c.left, c.visit, got, ok)
		}
	}
}

// oneDart tells how a leg goes on behind a single dart: what is left, and whether it has ended or is bust.
func oneDart(left int, x impl.Dart) (rest int, ended, bust bool) {
	rest = left - points(x)
	switch {
	case rest >= 2:
		return rest, false, false
	case rest == 0 && x.Times == 2:
		return 0, true, false
	}
	return left, false, true
}

func TestAllVisitsOfTwoDarts(t *testing.T) {
	for left := 1; left <= 125; left++ {
		for _, x := range everyDart() {
			rest, ended, bust := oneDart(left, x)
			if got, ok := impl.LeftAfter(left, []impl.Dart{x}); got != rest || !ok {
				t.Fatalf("LeftAfter(%d, %v) = %d %v", left, x, got, ok)
			}
			if got, ok := impl.IsBust(left, []impl.Dart{x}); got != bust || !ok {
				t.Fatalf("IsBust(%d, %v) = %v %v", left, x, got, ok)
			}
			for _, y := range everyDart() {
				visit := []impl.Dart{x, y}
				want, _, wantBust := oneDart(rest, y)
				if wantBust {
					want = left
				}
				fine := !ended && !bust
				if !fine {
					want, wantBust = 0, false
				}
				if got, ok := impl.LeftAfter(left, visit); got != want || ok != fine {
					t.Fatalf("LeftAfter(%d, %v) = %d %v", left, visit, got, ok)
				}
				if got, ok := impl.IsBust(left, visit); got != wantBust || ok != fine {
					t.Fatalf("IsBust(%d, %v) = %v %v", left, visit, got, ok)
				}
			}
		}
	}
}

func visitsOf(texts ...string) [][]impl.Dart {
	var visits [][]impl.Dart
	for _, text := range texts {
		visits = append(visits, throws(text))
	}
	return visits
}

func TestPlayLeg(t *testing.T) {
	cases := []struct {
		left   int
		visits [][]impl.Dart
		want   []int
	}{
		{0, nil, []int{0}}, {0, [][]impl.Dart{}, []int{0}}, {1, nil, []int{1}}, {1001, nil, []int{1001}}, {40, visitsOf("d20"), []int{40, 0}},
		{170, visitsOf("t20 t20 20", "1", "d20", "19 d10"), []int{170, 30, 29, 29, 29}},
		{170, visitsOf("t20 t20 20", "1", "9 d10"), []int{170, 30, 29, 0}},
		{41, visitsOf("t13", "2", "d2", "d1"), []int{41, 2, 2, 2, 0}},
		{1, visitsOf("1", "d1"), []int{1, 1, 1}},
		{501, visitsOf("t20 t20 t20", "t20 t20 t20", "t20 t19 d12"), []int{501, 321, 141, 0}},
	}
	for _, c := range cases {
		if got, ok := impl.PlayLeg(c.left, c.visits); !slices.Equal(got, c.want) || !ok {
			t.Errorf("PlayLeg(%d, %v) = %v %v", c.left, c.visits, got, ok)
		}
	}
	fails := []struct {
		left   int
		visits [][]impl.Dart
	}{
		{-1, nil}, {1002, nil}, {0, visitsOf("1")}, {40, visitsOf("d20", "1")}, {40, visitsOf("d20", "")}, {40, visitsOf("1", "")}, {40, visitsOf("1", "1 1 1 1")},
		{40, visitsOf("1", "t20 1")}, {40, visitsOf("d20 1")}, {40, [][]impl.Dart{throws("1"), {d(25, 3)}}}, {40, [][]impl.Dart{nil}},
	}
	for _, c := range fails {
		if got, ok := impl.PlayLeg(c.left, c.visits); len(got) != 0 || ok {
			t.Errorf("PlayLeg(%d, %v) = %v %v", c.left, c.visits, got, ok)
		}
	}
}

func TestPlayLegAtItsLimit(t *testing.T) {
	visits := slices.Repeat(visitsOf("1"), impl.MaxVisits)
	got, ok := impl.PlayLeg(impl.MaxLeft, visits)
	if len(got) != impl.MaxVisits+1 || !ok || got[0] != 1001 || got[1] != 1000 || got[100] != 901 {
		t.Error("100 visits", got, ok)
	}
	if got, ok := impl.PlayLeg(impl.MaxLeft, append(visits, throws("1"))); len(got) != 0 || ok {
		t.Error("101 visits", got, ok)
	}
	bust := slices.Repeat(visitsOf("t20"), impl.MaxVisits)
	if got, ok := impl.PlayLeg(40, bust); !slices.Equal(got, slices.Repeat([]int{40}, 101)) || !ok {
		t.Error("100 bust visits", got, ok)
	}
	if got, ok := impl.PlayLeg(40, append(bust, throws("t20"))); len(got) != 0 || ok {
		t.Error("101 bust visits", got, ok)
	}
}

func TestBoard(t *testing.T) {
	for i, a := range clock {
		x, y, ok := impl.BesideOf(a)
		if x != clock[(i+19)%20] || y != clock[(i+1)%20] || !ok {
			t.Errorf("BesideOf(%d) = %d %d %v", a, x, y, ok)
		}
		for j, b := range clock {
			want := max(i, j) - min(i, j)
			if want > 10 {
				want = 20 - want
			}
			if got, ok := impl.StepsAround(a, b); got != want || !ok {
				t.Errorf("StepsAround(%d, %d) = %d %v", a, b, got, ok)
			}
		}
	}
	if x, y, ok := impl.BesideOf(20); x != 5 || y != 1 || !ok {
		t.Error("BesideOf(20)", x, y, ok)
	}
	if x, y, ok := impl.BesideOf(5); x != 12 || y != 20 || !ok {
		t.Error("BesideOf(5)", x, y, ok)
	}
	for _, pair := range [][3]int{{20, 20, 0}, {20, 1, 1}, {20, 5, 1}, {5, 1, 2}, {20, 3, 10}, {3, 20, 10}, {20, 17, 9}, {20, 19, 9}} {
		if got, ok := impl.StepsAround(pair[0], pair[1]); got != pair[2] || !ok {
			t.Errorf("StepsAround(%d, %d) = %d %v", pair[0], pair[1], got, ok)
		}
	}
}

func TestBestArc(t *testing.T) {
	twice := append(slices.Clone(clock), clock...)
	for many := 1; many <= 20; many++ {
		first, most := 0, 0
		for i := range 20 {
			sum := 0
			for _, number := range twice[i : i+many] {
				sum += number
			}
			if sum > most {
				first, most = clock[i], sum
			}
		}
		if a, b, ok := impl.BestArc(many); a != first || b != most || !ok {
			t.Errorf("BestArc(%d) = %d %d %v, want %d %d", many, a, b, ok, first, most)
		}
	}
	for many, want := range map[int][2]int{1: {20, 20}, 3: {19, 42}, 19: {18, 209}, 20: {20, 210}} {
		if a, b, ok := impl.BestArc(many); a != want[0] || b != want[1] || !ok {
			t.Errorf("BestArc(%d) = %d %d %v, want %v", many, a, b, ok, want)
		}
	}
}

func TestDartTexts(t *testing.T) {
	for _, x := range everyDart() {
		want := []string{"", "d", "t"}[x.Times-1] + strconv.Itoa(x.Number)
		if got, ok := impl.DartText(x); got != want || !ok {
			t.Errorf("DartText(%v) = %q %v", x, got, ok)
		}
		if got, ok := impl.ParseDart(want); got != x || !ok {
			t.Errorf("ParseDart(%q) = %v %v", want, got, ok)
		}
		if got, ok := impl.DartsText([]impl.Dart{x}); got != want || !ok {
			t.Errorf("DartsText(%v) = %q %v", x, got, ok)
		}
		if got, ok := impl.ParseDarts(want); !slices.Equal(got, []impl.Dart{x}) || !ok {
			t.Errorf("ParseDarts(%q) = %v %v", want, got, ok)
		}
	}
	for _, x := range wildDarts {
		if got, ok := impl.DartText(x); got != "" || ok {
			t.Errorf("DartText(%v) = %q %v", x, got, ok)
		}
	}
}

func TestDartsTexts(t *testing.T) {
	for text, list := range map[string][]impl.Dart{
		"t20-t20-d25":                        {d(20, 3), d(20, 3), d(25, 2)},
		"20-d10":                             {d(20, 1), d(10, 2)},
		"1-2-3-4-5-6-7-8-9":                  throws("1 2 3 4 5 6 7 8 9"),
		"25-d1":                              {d(25, 1), d(1, 2)},
		"t20-t20-t20-t20-t20-t20-t20-t20-20": append(slices.Repeat(throws("t20"), 8), d(20, 1)),
	} {
		if got, ok := impl.DartsText(list); got != text || !ok {
			t.Errorf("DartsText(%v) = %q %v", list, got, ok)
		}
		if got, ok := impl.ParseDarts(text); !slices.Equal(got, list) || !ok {
			t.Errorf("ParseDarts(%q) = %v %v", text, got, ok)
		}
	}
	fails := [][]impl.Dart{nil, {}, slices.Repeat(throws("1"), 10)}
	for _, x := range wildDarts {
		fails = append(fails, []impl.Dart{x}, []impl.Dart{d(1, 1), x}, []impl.Dart{x, d(1, 1)})
	}
	for _, list := range fails {
		if got, ok := impl.DartsText(list); got != "" || ok {
			t.Errorf("DartsText(%v) = %q %v", list, got, ok)
		}
	}
}

func TestTextsThatAreNone(t *testing.T) {
	bad := []string{
		"", " ", "0", "d", "t", "d0", "t0", "21", "24", "26", "d21", "t21", "t25", "d26", "50", "01", "d01", "020", "+1", "-1", "d+1", "D20", "T20", "s20",
		" 20", "20 ", "d 20", "20\n", "20\x00", "\x00", "1d", "20d", "dd5", "dt5", "td5", "1.0", "1e1", "0x1", "99999999999999999999", "\xff", "٣", "２０",
	}
	for _, s := range bad {
		if got, ok := impl.ParseDart(s); got != (impl.Dart{}) || ok {
			t.Errorf("ParseDart(%q) = %v %v", s, got, ok)
		}
		for _, text := range []string{s, "1-" + s, s + "-1", "t20-" + s + "-d5"} {
			if got, ok := impl.ParseDarts(text); len(got) != 0 || ok {
				t.Errorf("ParseDarts(%q) = %v %v", text, got, ok)
			}
		}
	}
	if got, ok := impl.ParseDart("1-1"); got != (impl.Dart{}) || ok {
		t.Error("ParseDart of two darts", got, ok)
	}
	for _, s := range []string{"-", "--", "1--1", "1-", "-1", "1,1", "1 - 1", "1-2-3-4-5-6-7-8-9-10", strings.Repeat("1-", 100000) + "1", strings.Repeat("-", 100000)} {
		if got, ok := impl.ParseDarts(s); len(got) != 0 || ok {
			t.Errorf("ParseDarts of %d bytes = %v %v", len(s), got, ok)
		}
	}
}

// TestWildNumbers holds promise 11 for numbers: those out of range fail, with zero results.
func TestWildNumbers(t *testing.T) {
	for _, a := range wildInts {
		counts, board := a >= 1 && a <= 3, a >= 1 && a <= 20
		oneNumber := map[string]func(int) (int, bool){"CountScores": impl.CountScores, "HighestFinish": impl.HighestFinish}
		for name, call := range oneNumber {
			if got, ok := call(a); ok != counts || !ok && got != 0 {
				t.Errorf("%s(%d) = %d %v", name, a, got, ok)
			}
		}
		if got, ok := impl.FewestDarts(a); ok != (a >= 2 && a <= 1001) || !ok && got != 0 {
			t.Errorf("FewestDarts(%d) = %d %v", a, got, ok)
		}
		if x, y, ok := impl.BesideOf(a); ok != board || !ok && (x != 0 || y != 0) {
			t.Errorf("BesideOf(%d) = %d %d %v", a, x, y, ok)
		}
		if x, y, ok := impl.BestArc(a); ok != board || !ok && (x != 0 || y != 0) {
			t.Errorf("BestArc(%d) = %d %d %v", a, x, y, ok)
		}
		for _, b := range wildInts {
			checkTwoNumbers(t, a, b)
		}
	}
}

func checkTwoNumbers(t *testing.T, a, b int) {
	t.Helper()
	fine := a >= 0 && a <= 1001 && b >= 1 && b <= 3
	if got, ok := impl.CanScore(a, b); ok != fine || !ok && got {
		t.Errorf("CanScore(%d, %d) = %v %v", a, b, got, ok)
	}
	if got, ok := impl.CountWaysTo(a, b); ok != fine || !ok && got != 0 {
		t.Errorf("CountWaysTo(%d, %d) = %v %v", a, b, got, ok)
	}
	if got, ok := impl.CanFinish(a, b); ok != fine || !ok && got {
		t.Errorf("CanFinish(%d, %d) = %v %v", a, b, got, ok)
	}
	if got, ok := impl.CountFinishes(a, b); ok != fine || !ok && got != 0 {
		t.Errorf("CountFinishes(%d, %d) = %v %v", a, b, got, ok)
	}
	if got, ok := impl.NoFinishes(a, b); ok != fine || !ok && len(got) != 0 {
		t.Errorf("NoFinishes(%d, %d) = %v %v", a, b, got, ok)
	}
	if got, ok := impl.FirstFinish(a, b); ok && !fine || !ok && len(got) != 0 {
		t.Errorf("FirstFinish(%d, %d) = %v %v", a, b, got, ok)
	}
	board := a >= 1 && a <= 20 && b >= 1 && b <= 20
	if got, ok := impl.StepsAround(a, b); ok != board || !ok && got != 0 {
		t.Errorf("StepsAround(%d, %d) = %v %v", a, b, got, ok)
	}
}

// withRoom returns the list with something behind its length, and a copy of all of that.
func withRoom(list []impl.Dart) (short, whole, kept []impl.Dart) {
	whole = append(slices.Clone(list), d(7, 7), d(-7, -7), d(1, 1))
	return whole[:len(list)], whole, slices.Clone(whole)
}

func TestDartArgumentsAreKept(t *testing.T) {
	for _, list := range [][]impl.Dart{nil, throws("1"), throws("t20 t20 d25"), throws("d20 1"), throws("1 1 1 1"), slices.Repeat(throws("5"), 9), wildDarts} {
		short, whole, kept := withRoom(list)
		impl.ScoreOf(short)
		impl.DartsText(short)
		impl.LeftAfter(40, short)
		impl.IsBust(40, short)
		impl.PlayLeg(40, [][]impl.Dart{short, short})
		if !slices.Equal(whole, kept) {
			t.Errorf("%v became %v", kept, whole)
		}
	}
}

func TestPlayLegKeepsVisits(t *testing.T) {
	short, whole, kept := withRoom(throws("1 d1"))
	all := [][]impl.Dart{short, short, short, throws("9")}
	impl.PlayLeg(40, all[:2])
	if !slices.Equal(whole, kept) || len(all[2]) != 2 || !slices.Equal(all[3], throws("9")) {
		t.Error("the visits became", all, whole)
	}
	for i := range all[:2] {
		if &all[i][0] != &whole[0] || len(all[i]) != 2 {
			t.Error("another visit at", i)
		}
	}
}

func TestDartResultsAreNew(t *testing.T) {
	for range 2 {
		finish, _ := impl.FirstFinish(170, 3)
		none, _ := impl.NoFinishes(170, 3)
		leg, _ := impl.PlayLeg(40, visitsOf("1", "1"))
		list, _ := impl.ParseDarts("t20-5")
		if !slices.Equal(finish, throws("t20 t20 d25")) || len(none) != 7 || none[0] != 159 || !slices.Equal(leg, []int{40, 39, 38}) || !slices.Equal(list, throws("t20 5")) {
			t.Fatal("the results of the second call are others:", finish, none, leg, list)
		}
		clear(finish[:cap(finish)])
		clear(none[:cap(none)])
		clear(leg[:cap(leg)])
		clear(list[:cap(list)])
	}
}
