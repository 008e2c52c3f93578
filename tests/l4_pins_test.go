package tests

import (
	"math"
	"math/rand"
	"slices"
	"strconv"
	"strings"
	"testing"

	"loop.example/g01368/impl"
)

// slot is a frame on a card, with how many more balls its score waits for.
type slot struct {
	balls  [3]int
	rolled int
	score  int
	waits  int
}

// card is kept ball by ball: each one adds its pins to the score of every frame that waits for it.
type card struct {
	frames int
	begun  int
	open   bool
	slots  [10]slot
	up     int
	setUp  bool
}

func newCard(frames int) card { return card{frames: frames, up: 10, setUp: true} }

func (c card) over() bool { return c.begun == c.frames && !c.open }

func (c card) roll(pins int) (card, bool) {
	if c.over() || pins < 0 || pins > c.up {
		return c, false
	}
	if !c.open {
		c.slots[c.begun].waits = 2
		c.begun++
		c.open = true
	}
	for i := range c.begun {
		if c.slots[i].waits > 0 {
			c.slots[i].waits--
			c.slots[i].score += pins
		}
	}
	s := &c.slots[c.begun-1]
	s.balls[s.rolled] = pins
	s.rolled++
	cleared := pins == c.up
	c.up, c.setUp = c.up-pins, cleared
	if cleared {
		c.up = 10
		if s.rolled == 1 || s.rolled == 2 && s.balls[0] < 10 {
			s.waits++
		}
	}
	if c.begun == c.frames {
		c.open = s.waits > 0
	} else if cleared || s.rolled == 2 {
		c.open, c.up, c.setUp = false, 10, true
	}
	return c, true
}

func (c card) sign(pins int) string {
	switch {
	case pins == 0:
		return "-"
	case pins < c.up:
		return strconv.Itoa(pins)
	case c.setUp:
		return "X"
	}
	return "/"
}

// cardOf returns the card of rolls, and their text.
func cardOf(frames int, rolls []int) (card, string, bool) {
	c, text := newCard(frames), ""
	for _, pins := range rolls {
		sign := c.sign(pins)
		next, ok := c.roll(pins)
		if !ok {
			return card{}, "", false
		}
		c, text = next, text+sign
	}
	return c, text, true
}

// forget returns the card with nothing on it but what the next balls depend on, and the points that were on it.
func (c card) forget() (card, int) {
	points := 0
	for i := range c.begun {
		points += c.slots[i].score
		if i == c.begun-1 && c.open {
			c.slots[i].score = 0
		} else {
			c.slots[i] = slot{waits: c.slots[i].waits}
		}
	}
	return c, points
}

// outlook is in how many ways a card can go on to the end, by the points that are added, and by how many balls.
type outlook struct {
	ways   [301]int
	fewest int
	most   int
}

// oracle holds the outlook of cards that are forgotten.
type oracle map[card]*outlook

func (o oracle) look(c card) *outlook {
	if known := o[c]; known != nil {
		return known
	}
	on := &outlook{}
	if c.over() {
		on.ways[0] = 1
	} else {
		on.fewest = math.MaxInt
		for pins := range c.up + 1 {
			next, _ := c.roll(pins)
			key, points := next.forget()
			behind := o.look(key)
			on.fewest, on.most = min(on.fewest, behind.fewest+1), max(on.most, behind.most+1)
			for rest, ways := range behind.ways {
				if ways > 0 {
					on.ways[points+rest] += ways
				}
			}
		}
	}
	o[c] = on
	return on
}

// totals returns in how many ways a card leads to each total.
func (o oracle) totals(c card) [301]int {
	key, points := c.forget()
	var totals [301]int
	for rest, ways := range o.look(key).ways {
		if ways > 0 {
			totals[points+rest] = ways
		}
	}
	return totals
}

// bounds returns the least and the greatest total to which a card leads.
func (o oracle) bounds(c card) (least, most int) {
	least = -1
	for total, ways := range o.totals(c) {
		if ways > 0 {
			most = total
			if least < 0 {
				least = total
			}
		}
	}
	return least, most
}

// firstGame takes the least ball each time with which the total can be reached still.
func (o oracle) firstGame(frames int, total int) ([]int, bool) {
	c := newCard(frames)
	if o.totals(c)[total] == 0 {
		return nil, false
	}
	var game []int
	for !c.over() {
		for pins := range c.up + 1 {
			next, _ := c.roll(pins)
			if o.totals(next)[total] > 0 {
				c, game = next, append(game, pins)
				break
			}
		}
	}
	return game, true
}

func timesOver(times int, balls ...int) []int { return slices.Repeat(balls, times) }

func sumInts(list []int) int {
	sum := 0
	for _, n := range list {
		sum += n
	}
	return sum
}

type rollsCall struct {
	name string
	call func(int, []int) (int, bool)
}

func countingCalls() []rollsCall {
	return []rollsCall{
		{"TotalOf", impl.TotalOf}, {"SoFar", impl.SoFar}, {"MostTotal", impl.MostTotal}, {"LeastTotal", impl.LeastTotal},
		{"StrikesIn", impl.StrikesIn}, {"SparesIn", impl.SparesIn}, {"StandingPins", impl.StandingPins},
	}
}

// checkRolls holds promise 4 for rolls and every function of them, against a card.
func checkRolls(t *testing.T, o oracle, frames int, rolls []int) {
	t.Helper()
	c, text, ok := cardOf(frames, rolls)
	if !ok {
		t.Fatalf("no rolls of %d: %v", frames, rolls)
	}
	if !impl.AreRolls(frames, rolls) {
		t.Errorf("AreRolls(%d, %v) = false", frames, rolls)
	}
	if all, ok := impl.AreAll(frames, rolls); all != c.over() || !ok {
		t.Errorf("AreAll(%d, %v) = %v %v", frames, rolls, all, ok)
	}
	if got, ok := impl.RollsText(frames, rolls); got != text || !ok {
		t.Errorf("RollsText(%d, %v) = %q %v, want %q", frames, rolls, got, ok, text)
	}
	if got, ok := impl.ParseRolls(frames, text); !slices.Equal(got, rolls) || !ok {
		t.Errorf("ParseRolls(%d, %q) = %v %v, want %v", frames, text, got, ok, rolls)
	}
	checkFrames(t, frames, rolls, c)
	checkNumbers(t, o, frames, rolls, c)
}

func checkFrames(t *testing.T, frames int, rolls []int, c card) {
	t.Helper()
	var scores []int
	var split [][]int
	for _, s := range c.slots[:c.begun] {
		split = append(split, s.balls[:s.rolled])
		if s.waits == 0 {
			scores = append(scores, s.score)
		}
	}
	if got, ok := impl.FramesOfRolls(frames, rolls); !slices.EqualFunc(got, split, slices.Equal[[]int]) || !ok {
		t.Errorf("FramesOfRolls(%d, %v) = %v %v, want %v", frames, rolls, got, ok, split)
	}
	if got, ok := impl.FrameScores(frames, rolls); !slices.Equal(got, scores) || !ok {
		t.Errorf("FrameScores(%d, %v) = %v %v, want %v", frames, rolls, got, ok, scores)
	}
}

func checkNumbers(t *testing.T, o oracle, frames int, rolls []int, c card) {
	t.Helper()
	want := map[string]int{}
	for _, s := range c.slots[:c.begun] {
		if s.waits == 0 {
			want["SoFar"] += s.score
		}
		if s.balls[0] == 10 {
			want["StrikesIn"]++
		} else if s.rolled > 1 && s.balls[0]+s.balls[1] == 10 {
			want["SparesIn"]++
		}
	}
	want["LeastTotal"], want["MostTotal"] = o.bounds(c)
	if c.over() {
		want["TotalOf"] = want["SoFar"]
	} else {
		want["StandingPins"] = c.up
	}
	for _, x := range countingCalls() {
		fine := true
		switch x.name {
		case "TotalOf":
			fine = c.over()
		case "StandingPins":
			fine = !c.over()
		}
		if got, ok := x.call(frames, rolls); got != want[x.name] || ok != fine {
			t.Errorf("%s(%d, %v) = %d %v, want %d", x.name, frames, rolls, got, ok, want[x.name])
		}
	}
	key, _ := c.forget()
	on := o.look(key)
	if fewest, most, ok := impl.RollsLeft(frames, rolls); fewest != on.fewest || most != on.most || !ok {
		t.Errorf("RollsLeft(%d, %v) = %d %d %v, want %d %d", frames, rolls, fewest, most, ok, on.fewest, on.most)
	}
}

// checkNoRolls holds that every function of rolls fails for what is none, with zero results.
func checkNoRolls(t *testing.T, frames int, rolls []int) {
	t.Helper()
	if impl.AreRolls(frames, rolls) {
		t.Errorf("AreRolls(%d, %.60v)", frames, rolls)
	}
	if all, ok := impl.AreAll(frames, rolls); all || ok {
		t.Errorf("AreAll(%d, %.60v) = %v %v", frames, rolls, all, ok)
	}
	if got, ok := impl.FramesOfRolls(frames, rolls); len(got) != 0 || ok {
		t.Errorf("FramesOfRolls(%d, %.60v) = %v %v", frames, rolls, got, ok)
	}
	if got, ok := impl.FrameScores(frames, rolls); len(got) != 0 || ok {
		t.Errorf("FrameScores(%d, %.60v) = %v %v", frames, rolls, got, ok)
	}
	for _, x := range countingCalls() {
		if got, ok := x.call(frames, rolls); got != 0 || ok {
			t.Errorf("%s(%d, %.60v) = %d %v", x.name, frames, rolls, got, ok)
		}
	}
	if fewest, most, ok := impl.RollsLeft(frames, rolls); fewest != 0 || most != 0 || ok {
		t.Errorf("RollsLeft(%d, %.60v) = %d %d %v", frames, rolls, fewest, most, ok)
	}
	if got, ok := impl.BestRoll(frames, rolls, 0); got != 0 || ok {
		t.Errorf("BestRoll(%d, %.60v, 0) = %d %v", frames, rolls, got, ok)
	}
	if got, ok := impl.RollsText(frames, rolls); got != "" || ok {
		t.Errorf("RollsText(%d, %.60v) = %q %v", frames, rolls, got, ok)
	}
}

// checkBestRoll looks at the totals that are just reached with each next ball, and at those just not.
func checkBestRoll(t *testing.T, o oracle, frames int, rolls []int) {
	t.Helper()
	c, _, _ := cardOf(frames, rolls)
	var reached []int
	totals := []int{0, 300}
	for pins := 0; !c.over() && pins <= c.up; pins++ {
		next, _ := c.roll(pins)
		_, most := o.bounds(next)
		reached = append(reached, most)
		totals = append(totals, most, min(most+1, 300))
	}
	slices.Sort(totals)
	for _, total := range slices.Compact(totals) {
		want := slices.IndexFunc(reached, func(most int) bool { return most >= total })
		got, ok := impl.BestRoll(frames, rolls, total)
		if ok != (want >= 0) || got != max(want, 0) {
			t.Errorf("BestRoll(%d, %v, %d) = %d %v, want %d", frames, rolls, total, got, ok, want)
		}
	}
}

func TestPinsOfTheExample(t *testing.T) {
	rolls := []int{10, 3, 7, 4}
	if got, ok := impl.FrameScores(2, rolls); !slices.Equal(got, []int{20, 14}) || !ok {
		t.Error("FrameScores", got, ok)
	}
	if got, ok := impl.TotalOf(2, rolls); got != 34 || !ok {
		t.Error("TotalOf", got, ok)
	}
	if got, ok := impl.RollsText(2, rolls); got != "X3/4" || !ok {
		t.Error("RollsText", got, ok)
	}
	if got, ok := impl.MostTotal(2, rolls[:2]); got != 40 || !ok {
		t.Error("MostTotal", got, ok)
	}
	if got, ok := impl.LeastTotal(2, rolls[:2]); got != 16 || !ok {
		t.Error("LeastTotal", got, ok)
	}
	if got, ok := impl.StandingPins(2, rolls[:2]); got != 7 || !ok {
		t.Error("StandingPins", got, ok)
	}
	if fewest, most, ok := impl.RollsLeft(2, rolls[:2]); fewest != 1 || most != 2 || !ok {
		t.Error("RollsLeft", fewest, most, ok)
	}
	for total, want := range map[int]int{0: 0, 16: 0, 17: 1, 28: 6, 29: 7, 30: 7, 40: 7} {
		if got, ok := impl.BestRoll(2, rolls[:2], total); got != want || !ok {
			t.Errorf("BestRoll for %d = %d %v", total, got, ok)
		}
	}
	if got, ok := impl.BestRoll(2, rolls[:2], 41); got != 0 || ok {
		t.Error("BestRoll for 41", got, ok)
	}
	if got, ok := impl.FirstGameOf(1, 12); !slices.Equal(got, []int{0, 10, 2}) || !ok {
		t.Error("FirstGameOf", got, ok)
	}
	if got, ok := impl.CountGamesOf(1, 29); got != 1 || !ok {
		t.Error("CountGamesOf", got, ok)
	}
	if got, ok := impl.FirstGameOf(1, 29); !slices.Equal(got, []int{10, 10, 9}) || !ok {
		t.Error("FirstGameOf 29", got, ok)
	}
}

// TestRollsOfSmallGames holds promise 4 for all rolls of 1 and of 2 frames, and that no other ball may come behind them.
func TestRollsOfSmallGames(t *testing.T) {
	o := oracle{}
	for frames := 1; frames <= 2; frames++ {
		var grow func(rolls []int)
		grow = func(rolls []int) {
			checkRolls(t, o, frames, rolls)
			checkBestRoll(t, o, frames, rolls)
			c, _, _ := cardOf(frames, rolls)
			for pins := -1; pins <= 11; pins++ {
				next := append(slices.Clone(rolls), pins)
				if _, ok := c.roll(pins); ok {
					grow(next)
				} else if impl.AreRolls(frames, next) {
					t.Errorf("AreRolls(%d, %v)", frames, next)
				}
			}
		}
		grow(nil)
	}
}

// randomRolls rolls to the end, with many strikes, spares and balls that knock down none.
func randomRolls(r *rand.Rand, frames int) []int {
	var rolls []int
	for c := newCard(frames); !c.over(); {
		pins := r.Intn(c.up + 1)
		switch r.Intn(4) {
		case 0:
			pins = c.up
		case 1:
			pins = 0
		}
		c, _ = c.roll(pins)
		rolls = append(rolls, pins)
	}
	return rolls
}

func TestRandomRolls(t *testing.T) {
	r := rand.New(rand.NewSource(4))
	o := oracle{}
	for frames := 1; frames <= 10; frames++ {
		for range 200 {
			game := randomRolls(r, frames)
			rolls := game[:r.Intn(len(game)+1)]
			checkRolls(t, o, frames, game)
			checkRolls(t, o, frames, rolls)
			checkBestRoll(t, o, frames, rolls)
			checkNoRolls(t, frames, append(slices.Clone(game), r.Intn(11)))
			wrong := slices.Clone(game)
			wrong[r.Intn(len(game))] += r.Intn(23) - 11
			if _, _, fine := cardOf(frames, wrong); fine {
				checkRolls(t, o, frames, wrong)
			} else {
				checkNoRolls(t, frames, wrong)
			}
		}
	}
}

// TestKnownGames holds totals and texts that are known without a model.
func TestKnownGames(t *testing.T) {
	o := oracle{}
	for _, c := range []struct {
		frames int
		rolls  []int
		total  int
		text   string
	}{
		{10, timesOver(12, 10), 300, "XXXXXXXXXXXX"},
		{10, timesOver(20, 0), 0, "--------------------"},
		{10, timesOver(10, 9, 0), 90, "9-9-9-9-9-9-9-9-9-9-"},
		{10, timesOver(21, 5), 150, "5/5/5/5/5/5/5/5/5/5/5"},
		{10, append(timesOver(5, 10, 9, 1), 10), 200, "X9/X9/X9/X9/X9/X"},
		{10, append(timesOver(10, 0, 10), 10), 110, "-/-/-/-/-/-/-/-/-/-/X"},
		{10, append(timesOver(11, 10), 9), 299, "XXXXXXXXXXX9"},
		{10, append(timesOver(9, 10), 0, 0), 240, "XXXXXXXXX--"},
		{10, append(timesOver(9, 10), 0, 10, 10), 270, "XXXXXXXXX-/X"},
		{10, append(timesOver(18, 0), 10, 0, 10), 20, "------------------X-/"},
		{1, []int{0, 0}, 0, "--"},
		{1, []int{10, 10, 10}, 30, "XXX"},
		{1, []int{10, 10, 0}, 20, "XX-"},
		{1, []int{10, 0, 10}, 20, "X-/"},
		{1, []int{10, 0, 0}, 10, "X--"},
		{1, []int{10, 3, 7}, 20, "X3/"},
		{1, []int{10, 3, 6}, 19, "X36"},
		{1, []int{0, 10, 10}, 20, "-/X"},
		{1, []int{0, 10, 0}, 10, "-/-"},
		{1, []int{4, 6, 10}, 20, "4/X"},
		{1, []int{4, 5}, 9, "45"},
		{2, []int{10, 10, 10, 10}, 60, "XXXX"},
		{2, []int{10, 10, 0, 10}, 40, "XX-/"},
		{2, []int{10, 0, 10, 10}, 40, "X-/X"},
		{2, []int{0, 10, 10, 0, 10}, 40, "-/X-/"},
		{2, []int{0, 10, 0, 10, 10}, 30, "-/-/X"},
		{2, []int{9, 1, 9, 0}, 28, "9/9-"},
	} {
		checkRolls(t, o, c.frames, c.rolls)
		checkNoRolls(t, c.frames, append(slices.Clone(c.rolls), 0))
		checkNoRolls(t, c.frames, append(slices.Clone(c.rolls), 10))
		if got, ok := impl.TotalOf(c.frames, c.rolls); got != c.total || !ok {
			t.Errorf("TotalOf(%d, %v) = %d %v, want %d", c.frames, c.rolls, got, ok, c.total)
		}
		if got, ok := impl.RollsText(c.frames, c.rolls); got != c.text || !ok {
			t.Errorf("RollsText(%d, %v) = %q %v, want %q", c.frames, c.rolls, got, ok, c.text)
		}
		for many := range len(c.rolls) {
			checkRolls(t, o, c.frames, c.rolls[:many])
			checkBestRoll(t, o, c.frames, c.rolls[:many])
			if got, ok := impl.TotalOf(c.frames, c.rolls[:many]); got != 0 || ok {
				t.Errorf("TotalOf(%d, %v) = %d %v", c.frames, c.rolls[:many], got, ok)
			}
		}
	}
}

func TestNoRollsAtAll(t *testing.T) {
	o := oracle{}
	for frames := 1; frames <= 10; frames++ {
		for _, none := range [][]int{nil, {}} {
			checkRolls(t, o, frames, none)
			checkBestRoll(t, o, frames, none)
			if most, ok := impl.MostTotal(frames, none); most != 30*frames || !ok {
				t.Errorf("MostTotal(%d) of no rolls = %d %v", frames, most, ok)
			}
			if least, ok := impl.LeastTotal(frames, none); least != 0 || !ok {
				t.Errorf("LeastTotal(%d) of no rolls = %d %v", frames, least, ok)
			}
			if fewest, most, ok := impl.RollsLeft(frames, none); fewest != frames+1 || most != 2*frames+1 || !ok {
				t.Errorf("RollsLeft(%d) of no rolls = %d %d %v", frames, fewest, most, ok)
			}
			if up, ok := impl.StandingPins(frames, none); up != 10 || !ok {
				t.Errorf("StandingPins(%d) of no rolls = %d %v", frames, up, ok)
			}
			if pins, ok := impl.BestRoll(frames, none, 30*frames); pins != 10 || !ok {
				t.Errorf("BestRoll(%d) of no rolls = %d %v", frames, pins, ok)
			}
		}
	}
}

// TestBestRolls holds totals that can, just can and cannot be reached any more.
func TestBestRolls(t *testing.T) {
	for _, c := range []struct {
		frames int
		rolls  []int
		total  int
		want   int
		fine   bool
	}{
		{10, timesOver(11, 10), 300, 10, true}, {10, timesOver(11, 10), 299, 9, true}, {10, timesOver(11, 10), 290, 0, true}, {10, timesOver(11, 10), 0, 0, true},
		{10, timesOver(9, 10), 300, 10, true}, {10, timesOver(9, 10), 270, 0, true}, {10, timesOver(9, 10), 271, 1, true},
		{10, append(timesOver(9, 10), 9), 300, 0, false}, {10, timesOver(12, 10), 300, 0, false}, {10, timesOver(12, 10), 0, 0, false},
		{10, []int{9}, 290, 1, true}, {10, []int{9}, 291, 0, false}, {1, nil, 30, 10, true}, {1, nil, 31, 0, false}, {1, nil, 20, 0, true}, {1, nil, 21, 10, true},
		{1, []int{4, 6}, 20, 10, true}, {1, []int{4, 6}, 21, 0, false}, {1, []int{4, 5}, 0, 0, false}, {1, []int{10, 0}, 20, 10, true}, {1, []int{10, 0}, 21, 0, false},
		{1, []int{10, 3}, 11, 0, true}, {1, []int{10, 3}, 14, 1, true}, {1, []int{10, 3}, 20, 7, true}, {1, []int{4}, 9, 5, true}, {1, []int{4}, 10, 6, true}, {1, []int{4}, 20, 6, true},
		{1, []int{4}, 21, 0, false}, {2, nil, 61, 0, false}, {2, []int{10, 10}, 300, 0, false},
	} {
		if got, ok := impl.BestRoll(c.frames, c.rolls, c.total); got != c.want || ok != c.fine {
			t.Errorf("BestRoll(%d, %v, %d) = %d %v", c.frames, c.rolls, c.total, got, ok)
		}
	}
}

func TestBestRollForEachTotal(t *testing.T) {
	o := oracle{}
	r := rand.New(rand.NewSource(44))
	for range 20 {
		frames := 1 + r.Intn(10)
		game := randomRolls(r, frames)
		rolls := game[:r.Intn(len(game))]
		c, _, _ := cardOf(frames, rolls)
		for total := range 301 {
			want, fine := 0, false
			for pins := c.up; pins >= 0; pins-- {
				next, _ := c.roll(pins)
				if _, most := o.bounds(next); most >= total {
					want, fine = pins, true
				}
			}
			if got, ok := impl.BestRoll(frames, rolls, total); got != want || ok != fine {
				t.Errorf("BestRoll(%d, %v, %d) = %d %v, want %d %v", frames, rolls, total, got, ok, want, fine)
			}
		}
	}
}

// everyGame calls look with all games of so many frames, in the order of lists, and their totals.
func everyGame(frames int, look func(game []int, total int)) {
	var grow func(c card, rolls []int)
	grow = func(c card, rolls []int) {
		if c.over() {
			_, total := c.forget()
			look(rolls, total)
		}
		for pins := range c.up + 1 {
			if next, ok := c.roll(pins); ok {
				grow(next, append(rolls, pins))
			}
		}
	}
	grow(newCard(frames), nil)
}

// TestGamesOfFewFrames holds promise 4 for the counts: all games are rolled.
func TestGamesOfFewFrames(t *testing.T) {
	for frames := 1; frames <= 3; frames++ {
		var counts [301]int
		var firsts [301][]int
		everyGame(frames, func(game []int, total int) {
			if counts[total] == 0 {
				firsts[total] = slices.Clone(game)
			}
			counts[total]++
		})
		checkGames(t, frames, counts)
		for total, first := range firsts {
			if got, ok := impl.FirstGameOf(frames, total); !slices.Equal(got, first) || ok != (counts[total] > 0) {
				t.Errorf("FirstGameOf(%d, %d) = %v %v, want %v", frames, total, got, ok, first)
			}
		}
	}
}

func checkGames(t *testing.T, frames int, counts [301]int) {
	t.Helper()
	sum, likeliest := 0, 0
	for total, count := range counts {
		got, ok := impl.CountGamesOf(frames, total)
		if got != count || !ok {
			t.Errorf("CountGamesOf(%d, %d) = %d %v, want %d", frames, total, got, ok, count)
		}
		sum += got
		if count > counts[likeliest] {
			likeliest = total
		}
	}
	all := 241 // 55 without strike and spare, 110 behind a spare, 76 behind a strike
	for range frames - 1 {
		all *= 66
	}
	if sum != all {
		t.Errorf("all counts of %d frames are %d, want %d", frames, sum, all)
	}
	if total, games, ok := impl.MostGames(frames); total != likeliest || games != counts[likeliest] || !ok {
		t.Errorf("MostGames(%d) = %d %d %v, want %d %d", frames, total, games, ok, likeliest, counts[likeliest])
	}
}

func TestGamesOfAllFrames(t *testing.T) {
	o := oracle{}
	for frames := 1; frames <= 10; frames++ {
		checkGames(t, frames, o.totals(newCard(frames)))
		for total := range 301 {
			want, fine := o.firstGame(frames, total)
			got, ok := impl.FirstGameOf(frames, total)
			if !slices.Equal(got, want) || ok != fine {
				t.Errorf("FirstGameOf(%d, %d) = %v %v, want %v", frames, total, got, ok, want)
			}
			if sum, fine := impl.TotalOf(frames, got); ok && (sum != total || !fine) {
				t.Errorf("the first game of %d has %d: %v", total, sum, got)
			}
		}
	}
}

func TestKnownCounts(t *testing.T) {
	for _, c := range []struct{ frames, total, want int }{
		{1, 0, 1}, {1, 1, 2}, {1, 9, 10}, {1, 10, 1 + 10}, {1, 30, 1}, {1, 31, 0}, {1, 300, 0}, {2, 60, 1}, {2, 61, 0}, {2, 0, 1}, {2, 1, 4},
		{9, 270, 1}, {9, 271, 0}, {10, 0, 1}, {10, 1, 20}, {10, 2, 210}, {10, 300, 1}, {10, 299, 1}, {10, 77, 172542309343731946},
	} {
		if got, ok := impl.CountGamesOf(c.frames, c.total); got != c.want || !ok {
			t.Errorf("CountGamesOf(%d, %d) = %d %v, want %d", c.frames, c.total, got, ok, c.want)
		}
	}
	if total, games, ok := impl.MostGames(10); total != 77 || games != 172542309343731946 || !ok {
		t.Error("MostGames of 10", total, games, ok)
	}
	for frames, none := range map[int]int{1: 31, 2: 61, 5: 151, 9: 271} {
		for _, total := range []int{none, 300} {
			if game, ok := impl.FirstGameOf(frames, total); len(game) != 0 || ok {
				t.Errorf("FirstGameOf(%d, %d) = %v %v", frames, total, game, ok)
			}
		}
	}
	for total, want := range map[int][]int{0: timesOver(20, 0), 1: append(timesOver(19, 0), 1), 300: timesOver(12, 10)} {
		if game, ok := impl.FirstGameOf(10, total); !slices.Equal(game, want) || !ok {
			t.Errorf("FirstGameOf(10, %d) = %v %v", total, game, ok)
		}
	}
}

// textsOfRolls returns the rolls of so many frames by their texts of at most so many signs.
func textsOfRolls(frames, most int) map[string][]int {
	texts := map[string][]int{}
	var grow func(c card, rolls []int, text string)
	grow = func(c card, rolls []int, text string) {
		texts[text] = rolls
		for pins := 0; len(rolls) < most && pins <= c.up; pins++ {
			if next, ok := c.roll(pins); ok {
				grow(next, append(slices.Clone(rolls), pins), text+c.sign(pins))
			}
		}
	}
	grow(newCard(frames), nil, "")
	return texts
}

func checkText(t *testing.T, frames int, text string, texts map[string][]int) {
	t.Helper()
	want, fine := texts[text]
	if got, ok := impl.ParseRolls(frames, text); !slices.Equal(got, want) || ok != fine {
		t.Errorf("ParseRolls(%d, %q) = %v %v, want %v", frames, text, got, ok, want)
	}
}

// TestRollsTexts reads all short texts, with each sign in every place.
func TestRollsTexts(t *testing.T) {
	for _, frames := range []int{1, 2, 3, 10} {
		texts := textsOfRolls(frames, 4)
		for _, text := range everyText("-X/0123456789x", 4) {
			checkText(t, frames, text, texts)
		}
	}
	for frames := 1; frames <= 2; frames++ {
		texts := textsOfRolls(frames, 6)
		for _, text := range everyText("-X/19", 6) {
			checkText(t, frames, text, texts)
		}
	}
}

func TestTextsOfNoRolls(t *testing.T) {
	strange := []string{
		" ", "  ", "X ", " X", "X\n", "x", "--\x00", "+", "1,2", "1 2", "10", "/", "//", "X/", "--/", "-X", "37", "55", "19", "-/\xff", "\xff", "é", "１", "٣", "−", "✕", "0", "00", "Ⅹ",
		strings.Repeat("X", 13), strings.Repeat("-", 21), strings.Repeat("5/", 11), strings.Repeat("X", 9) + "37", strings.Repeat("X", 9) + "-X", strings.Repeat("X", 9) + "X/",
		strings.Repeat("X", 1<<20), strings.Repeat("-", 1<<20),
	}
	for code := range 256 {
		if sign := string([]byte{byte(code)}); !strings.Contains("-X/123456789", sign) {
			strange = append(strange, sign, "3"+sign, "X"+sign, sign+"-")
		}
	}
	for _, s := range strange {
		if got, ok := impl.ParseRolls(10, s); len(got) != 0 || ok {
			t.Errorf("ParseRolls(10, %.60q) = %v %v", s, got, ok)
		}
	}
	for frames := 1; frames <= 10; frames++ {
		if got, ok := impl.ParseRolls(frames, ""); len(got) != 0 || !ok {
			t.Errorf("ParseRolls(%d) of no text = %v %v", frames, got, ok)
		}
	}
}

// TestWildPins holds promise 11 for numbers of frames, totals and rolls that are none.
func TestWildPins(t *testing.T) {
	for _, frames := range append([]int{10, 11, 12, 300, -10}, wildInts...) {
		fine := frames >= 1 && frames <= 10
		if impl.AreRolls(frames, nil) != fine {
			t.Errorf("AreRolls(%d) of no rolls", frames)
		}
		if total, games, ok := impl.MostGames(frames); ok != fine || !fine && (total != 0 || games != 0) {
			t.Errorf("MostGames(%d) = %d %d %v", frames, total, games, ok)
		}
		for _, total := range append([]int{299, 300, 301}, wildInts...) {
			checkWildTotal(t, frames, total, fine)
		}
		if fine {
			continue
		}
		for _, rolls := range [][]int{nil, {}, {0}, {10}, {10, 3, 7, 4}, {-1}, {11}, timesOver(12, 10)} {
			checkNoRolls(t, frames, rolls)
		}
		for _, text := range []string{"", "-", "X", "X3/4", "x", strings.Repeat("X", 12)} {
			if got, ok := impl.ParseRolls(frames, text); len(got) != 0 || ok {
				t.Errorf("ParseRolls(%d, %q) = %v %v", frames, text, got, ok)
			}
		}
	}
}

func checkWildTotal(t *testing.T, frames, total int, fine bool) {
	t.Helper()
	fine = fine && total >= 0 && total <= 300
	if got, ok := impl.CountGamesOf(frames, total); ok != fine || !ok && got != 0 {
		t.Errorf("CountGamesOf(%d, %d) = %d %v", frames, total, got, ok)
	}
	if got, ok := impl.FirstGameOf(frames, total); ok != (fine && total <= 30*frames) || ok == (len(got) == 0) {
		t.Errorf("FirstGameOf(%d, %d) = %v %v", frames, total, got, ok)
	}
	if got, ok := impl.BestRoll(frames, nil, total); ok != (fine && total <= 30*frames) || !ok && got != 0 {
		t.Errorf("BestRoll(%d, nil, %d) = %d %v", frames, total, got, ok)
	}
}

func TestWildRolls(t *testing.T) {
	for frames := 1; frames <= 10; frames++ {
		begun := [][]int{nil, {0}, {3}, {9}}
		if frames > 1 {
			begun = append(begun, []int{10}, []int{0, 10}, []int{3, 7, 0}, []int{10, 3})
		} else {
			begun = append(begun, []int{10}, []int{10, 10}, []int{10, 0}, []int{10, 3}, []int{3, 7}, []int{0, 10})
		}
		for _, rolls := range begun {
			c, _, _ := cardOf(frames, rolls)
			for _, pins := range append([]int{c.up + 1, 10, 11, -10}, wildInts...) {
				if pins < 0 || pins > c.up {
					checkNoRolls(t, frames, append(slices.Clone(rolls), pins))
					checkNoRolls(t, frames, append(slices.Clone(rolls), pins, -pins, 0))
				}
			}
		}
		checkNoRolls(t, frames, timesOver(1<<20, 0))
		checkNoRolls(t, frames, timesOver(1<<20, 10))
	}
	checkNoRolls(t, 2, []int{3, 8})
	checkNoRolls(t, 2, []int{3, math.MaxInt})
	checkNoRolls(t, 1, []int{10, 3, 8})
	checkNoRolls(t, 1, []int{10, 3, 10})
}

// callPins calls every function that takes rolls.
func callPins(frames int, rolls []int) {
	impl.AreRolls(frames, rolls)
	impl.AreAll(frames, rolls)
	impl.FramesOfRolls(frames, rolls)
	impl.FrameScores(frames, rolls)
	for _, x := range countingCalls() {
		x.call(frames, rolls)
	}
	impl.RollsLeft(frames, rolls)
	impl.BestRoll(frames, rolls, 20)
	impl.BestRoll(frames, rolls, 300)
	impl.RollsText(frames, rolls)
}

// TestRollsAreKept holds promise 11: rolls and the room behind them are neither written nor read.
func TestRollsAreKept(t *testing.T) {
	o := oracle{}
	for _, rolls := range [][]int{nil, {}, {10}, {10, 3}, {10, 3, 7}, {10, 3, 7, 4}, {3, 7}, {4, 5, 10}, {10, 10}, {10, 10, 10, 10}, {0}, {11}, {10, 3, 8}, {-1}, {4, 5, 1, 2, 3}} {
		for _, room := range [][]int{{0, 0, 0, 0}, {7, 10, 10, 10}, {-5, 99, -5, 99}} {
			whole := slices.Concat(rolls, room)
			kept := slices.Clone(whole)
			callPins(2, whole[:len(rolls)])
			if !slices.Equal(whole, kept) {
				t.Errorf("%v became %v", kept, whole)
			}
			if _, _, ok := cardOf(2, rolls); ok {
				checkRolls(t, o, 2, whole[:len(rolls)])
				checkBestRoll(t, o, 2, whole[:len(rolls)])
			} else {
				checkNoRolls(t, 2, whole[:len(rolls)])
			}
		}
	}
}

// spoil writes over a list, and the room behind it.
func spoil(list []int) {
	whole := list[:cap(list)]
	for i := range whole {
		whole[i] = -7
	}
}

func TestPinsResultsAreNew(t *testing.T) {
	rolls := []int{10, 3, 7, 4, 5, 0, 10, 9, 0}
	kept := slices.Clone(rolls)
	split := [][]int{{10}, {3, 7}, {4, 5}, {0, 10}, {9, 0}}
	for range 2 {
		got, _ := impl.FramesOfRolls(6, rolls)
		scores, _ := impl.FrameScores(6, rolls)
		game, _ := impl.FirstGameOf(1, 12)
		read, _ := impl.ParseRolls(6, "X3/45-/9-")
		if !slices.EqualFunc(got, split, slices.Equal[[]int]) || !slices.Equal(scores, []int{20, 14, 9, 19, 9}) || !slices.Equal(game, []int{0, 10, 2}) || !slices.Equal(read, kept) {
			t.Fatal("the results of the second call are others:", got, scores, game, read)
		}
		for i := range got {
			spoil(got[i])
			for k := i + 1; k < len(got); k++ {
				if !slices.Equal(got[k], split[k]) {
					t.Errorf("the frames %d and %d share memory", i, k)
				}
			}
		}
		spoil(scores)
		spoil(game)
		spoil(read)
		if !slices.Equal(rolls, kept) {
			t.Fatal("the rolls became", rolls)
		}
	}
}

func TestFramesDoNotRunTogether(t *testing.T) {
	got, ok := impl.FramesOfRolls(3, []int{3, 4, 10, 10, 2, 8})
	if !ok || len(got) != 3 {
		t.Fatal("FramesOfRolls", got, ok)
	}
	for i := range got {
		got[i] = append(got[i], 99)
	}
	if want := [][]int{{3, 4, 99}, {10, 99}, {10, 2, 8, 99}}; !slices.EqualFunc(got, want, slices.Equal[[]int]) {
		t.Error("the frames became", got)
	}
}
