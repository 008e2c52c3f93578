package tests

import (
	"math"
	"math/big"
	"math/rand"
	"regexp"
	"slices"
	"strconv"
	"strings"
	"sync"
	"testing"

	"loop.example/g01368/impl"
)

func race(to, lead int) impl.Race { return impl.Race{To: to, Lead: lead} }

func everyRace() []impl.Race {
	var all []impl.Race
	for to := 1; to <= 30; to++ {
		for lead := 1; lead <= 5; lead++ {
			all = append(all, race(to, lead))
		}
	}
	return all
}

// noRaces are races that are none, each by one of its numbers, or by both.
func noRaces() []impl.Race {
	none := []impl.Race{{}, {To: 0, Lead: 1}, {To: 31, Lead: 1}, {To: 1, Lead: 0}, {To: 1, Lead: 6}, {To: 31, Lead: 6}, {To: -1, Lead: -1}, {To: 3, Lead: -2}, {To: -3, Lead: 2}}
	for _, n := range []int{math.MinInt, math.MinInt + 1, math.MaxInt - 1, math.MaxInt} {
		none = append(none, race(n, 2), race(3, n), race(n, n))
	}
	return none
}

// wonBy tells who has won a race by numbers of points, straight from the document.
func wonBy(r impl.Race, a, b int) string {
	switch {
	case a >= r.To && a-b >= r.Lead:
		return "a"
	case b >= r.To && b-a >= r.Lead:
		return "b"
	}
	return ""
}

func wonBehind(r impl.Race, text string) string {
	a, b := lettersOf(text)
	return wonBy(r, a, b)
}

func arePoints(text string) bool {
	return strings.Trim(text, "ab") == "" && len(text) <= 100
}

// isPlayIn looks at every beginning of a text: behind none of them but the whole may a side have won.
func isPlayIn(r impl.Race, text string) bool {
	if !arePoints(text) {
		return false
	}
	for i := range len(text) {
		if wonBehind(r, text[:i]) != "" {
			return false
		}
	}
	return true
}

// playsUpTo returns all plays of a race with at most so many points, in the order of texts.
func playsUpTo(r impl.Race, most int) []string {
	var all []string
	var grow func(play string)
	grow = func(play string) {
		all = append(all, play)
		if len(play) < most && wonBehind(r, play) == "" {
			grow(play + "a")
			grow(play + "b")
		}
	}
	grow("")
	return all
}

// pointsToWin lets a side win point by point until it has won the race: -1 if the other one has.
func pointsToWin(r impl.Race, play, side string) int {
	if wonBehind(r, play) == otherOf(side) {
		return -1
	}
	many := 0
	for wonBehind(r, play+strings.Repeat(side, many)) != side {
		many++
	}
	return many
}

// behindAtMost looks at every beginning of a play.
func behindAtMost(play, side string) int {
	most := 0
	for i := range len(play) {
		won, lost := strings.Count(play[:i], side), strings.Count(play[:i], otherOf(side))
		most = max(most, lost-won)
	}
	return most
}

// checkRacePlay holds promise 7 for a play.
func checkRacePlay(t *testing.T, r impl.Race, play string) {
	t.Helper()
	if got, ok := impl.IsPlay(r, play); !got || !ok {
		t.Errorf("IsPlay(%v, %q) = %v %v", r, play, got, ok)
	}
	a, b := lettersOf(play)
	if x, y, ok := impl.PointsIn(r, play); x != a || y != b || !ok {
		t.Errorf("PointsIn(%v, %q) = %d %d %v", r, play, x, y, ok)
	}
	winner, next := wonBehind(r, play), ""
	for _, side := range []string{"a", "b"} {
		if winner == "" && wonBehind(r, play+side) == side {
			next += side
		}
		want := pointsToWin(r, play, side)
		if got, ok := impl.FewestToWin(r, play, side); got != max(want, 0) || ok != (want >= 0) {
			t.Errorf("FewestToWin(%v, %q, %s) = %d %v, want %d", r, play, side, got, ok, want)
		}
	}
	if got, ok := impl.NextWinners(r, play); got != next || !ok {
		t.Errorf("NextWinners(%v, %q) = %q %v, want %q", r, play, got, ok, next)
	}
	behind, told := 0, winner
	if winner != "" {
		behind = behindAtMost(play, winner)
	} else {
		told = "-"
	}
	if got, ok := impl.WinnerOf(r, play); got != told || !ok {
		t.Errorf("WinnerOf(%v, %q) = %q %v, want %q", r, play, got, ok, told)
	}
	if got, ok := impl.GreatestComeback(r, play); got != behind || ok != (winner != "") {
		t.Errorf("GreatestComeback(%v, %q) = %d %v, want %d", r, play, got, ok, behind)
	}
}

// checkNoRacePlay holds that a text fails wherever a play of a race is required, with zero results.
func checkNoRacePlay(t *testing.T, r impl.Race, text string) {
	t.Helper()
	isRace := r.To >= 1 && r.To <= 30 && r.Lead >= 1 && r.Lead <= 5
	if got, ok := impl.IsPlay(r, text); got || ok != (isRace && arePoints(text)) {
		t.Errorf("IsPlay(%v, %.200q) = %v %v", r, text, got, ok)
	}
	if got, ok := impl.WinnerOf(r, text); got != "" || ok {
		t.Errorf("WinnerOf(%v, %.200q) = %q %v", r, text, got, ok)
	}
	if a, b, ok := impl.PointsIn(r, text); a != 0 || b != 0 || ok {
		t.Errorf("PointsIn(%v, %.200q) = %d %d %v", r, text, a, b, ok)
	}
	if got, ok := impl.NextWinners(r, text); got != "" || ok {
		t.Errorf("NextWinners(%v, %.200q) = %q %v", r, text, got, ok)
	}
	for _, side := range []string{"a", "b", "", "-"} {
		if got, ok := impl.FewestToWin(r, text, side); got != 0 || ok {
			t.Errorf("FewestToWin(%v, %.200q, %q) = %d %v", r, text, side, got, ok)
		}
	}
	if got, ok := impl.RankOfPlay(r, text); got != 0 || ok {
		t.Errorf("RankOfPlay(%v, %.200q) = %d %v", r, text, got, ok)
	}
	if got, ok := impl.GreatestComeback(r, text); got != 0 || ok {
		t.Errorf("GreatestComeback(%v, %.200q) = %d %v", r, text, got, ok)
	}
	for _, plays := range [][]string{{text}, {text, text, text}} {
		if got, ok := impl.MatchOf(r, plays, 2); got != "" || ok {
			t.Errorf("MatchOf(%v, %.200q) = %q %v", r, plays, got, ok)
		}
	}
}

func checkAsPlay(t *testing.T, r impl.Race, text string) {
	t.Helper()
	if isPlayIn(r, text) {
		checkRacePlay(t, r, text)
	} else {
		checkNoRacePlay(t, r, text)
	}
}

func TestRaceConstants(t *testing.T) {
	if impl.MaxTo != 30 || impl.MaxLeadBy != 5 || impl.MaxPlay != 100 || impl.MaxPlays != 1000000000000000 {
		t.Error(impl.MaxTo, impl.MaxLeadBy, impl.MaxPlay, impl.MaxPlays)
	}
}

func TestRaceOfTheExample(t *testing.T) {
	r := race(3, 2)
	if got, ok := impl.WinnerOf(r, "aabba"); got != "-" || !ok {
		t.Error("WinnerOf", got, ok)
	}
	if a, b, ok := impl.PointsIn(r, "aabba"); a != 3 || b != 2 || !ok {
		t.Error("PointsIn", a, b, ok)
	}
	if got, ok := impl.NextWinners(r, "aabba"); got != "a" || !ok {
		t.Error("NextWinners", got, ok)
	}
	for score, want := range map[[2]int]bool{{3, 1}: true, {1, 3}: true, {4, 2}: true, {2, 4}: true, {3, 2}: false, {3, 0}: true, {4, 0}: false, {4, 1}: false, {5, 3}: true, {5, 2}: false, {3, 3}: false, {2, 0}: false} {
		if got, ok := impl.EndsAt(r, score[0], score[1]); got != want || !ok {
			t.Error("EndsAt", score, got, ok)
		}
	}
	for score, want := range map[[2]int]int{{3, 1}: 3, {4, 2}: 6, {2, 2}: 6, {3, 0}: 1, {4, 0}: 0, {4, 1}: 0, {3, 3}: 12} {
		if got, ok := impl.CountPlaysTo(r, score[0], score[1]); got != want || !ok {
			t.Error("CountPlaysTo", score, got, ok)
		}
	}
	if got, ok := impl.FewestToWin(r, "aabb", "b"); got != 2 || !ok {
		t.Error("FewestToWin", got, ok)
	}
	if got, ok := impl.GreatestComeback(r, "aabbbb"); got != 2 || !ok {
		t.Error("GreatestComeback", got, ok)
	}
	if got, ok := impl.ServersOf("aabba", 2); got != "aabba" || !ok {
		t.Error("ServersOf", got, ok)
	}
	if a, b, ok := impl.PointsOnServe("aabba", 2); a != 3 || b != 2 || !ok {
		t.Error("PointsOnServe", a, b, ok)
	}
	if got, ok := impl.RaceText(r); got != "3+2" || !ok {
		t.Error("RaceText", got, ok)
	}
}

func TestIsRace(t *testing.T) {
	numbers := append([]int{5, 6, 7, 29, 30, 31, 32}, wildInts...)
	for _, to := range numbers {
		for _, lead := range numbers {
			want := to >= 1 && to <= 30 && lead >= 1 && lead <= 5
			if got := impl.IsRace(race(to, lead)); got != want {
				t.Errorf("IsRace(%d, %d) = %v", to, lead, got)
			}
		}
	}
	for _, r := range everyRace() {
		if !impl.IsRace(r) {
			t.Errorf("IsRace(%v) is false", r)
		}
	}
	for _, r := range noRaces() {
		if impl.IsRace(r) {
			t.Errorf("IsRace(%v)", r)
		}
	}
}

// TestAllShortPlays holds promise 7 for all texts of few letters.
func TestAllShortPlays(t *testing.T) {
	races := []impl.Race{race(7, 2), race(9, 1), race(30, 1), race(30, 5)}
	for _, r := range everyRace()[:6*5] {
		races = append(races, r)
	}
	for _, r := range races {
		for _, text := range everyText("ab", 9) {
			checkAsPlay(t, r, text)
		}
		for _, text := range everyText("abc", 4) {
			checkAsPlay(t, r, text)
		}
	}
	for _, text := range everyText("ab", 13) {
		checkAsPlay(t, race(4, 3), text)
	}
}

// TestPlaysOfTheLeastAndTheGreatestRace looks at a race to 1 by 1, and at one to MaxTo by MaxLeadBy.
func TestPlaysOfTheLeastAndTheGreatestRace(t *testing.T) {
	as, bs := func(n int) string { return strings.Repeat("a", n) }, func(n int) string { return strings.Repeat("b", n) }
	for _, c := range []struct {
		r                  impl.Race
		play, winner, next string
		needA, needB       int
	}{
		{race(1, 1), "", "-", "ab", 1, 1}, {race(1, 1), "a", "a", "", 0, -1}, {race(1, 1), "b", "b", "", -1, 0},
		{race(30, 5), "", "-", "", 30, 30}, {race(30, 5), as(29), "-", "a", 1, 34}, {race(30, 5), as(30), "a", "", 0, -1}, {race(30, 5), bs(30), "b", "", -1, 0},
		{race(30, 5), as(25) + bs(29), "-", "b", 9, 1}, {race(30, 5), as(26) + bs(30), "-", "b", 9, 1}, {race(30, 5), as(26) + bs(31), "b", "", -1, 0},
		{race(30, 5), as(25) + bs(30), "b", "", -1, 0}, {race(30, 5), deuces(29), "-", "", 5, 5}, {race(30, 5), deuces(30) + "aaaa", "-", "a", 1, 9}, {race(30, 5), deuces(30) + "aaaaa", "a", "", 0, -1},
		{race(1, 5), "aaaa", "-", "a", 1, 9}, {race(1, 5), "aaaaa", "a", "", 0, -1}, {race(30, 1), deuces(29), "-", "ab", 1, 1}, {race(30, 1), deuces(29) + "b", "b", "", -1, 0},
		{race(3, 1), "aabb", "-", "ab", 1, 1}, {race(3, 2), "aabb", "-", "", 2, 2}, {race(3, 2), "aabbb", "-", "b", 3, 1},
	} {
		checkRacePlay(t, c.r, c.play)
		if got, ok := impl.WinnerOf(c.r, c.play); got != c.winner || !ok {
			t.Errorf("WinnerOf(%v, %q) = %q %v", c.r, c.play, got, ok)
		}
		if got, ok := impl.NextWinners(c.r, c.play); got != c.next || !ok {
			t.Errorf("NextWinners(%v, %q) = %q %v", c.r, c.play, got, ok)
		}
		if got, ok := impl.FewestToWin(c.r, c.play, "a"); got != max(c.needA, 0) || ok != (c.needA >= 0) {
			t.Errorf("FewestToWin(%v, %q, a) = %d %v", c.r, c.play, got, ok)
		}
		if got, ok := impl.FewestToWin(c.r, c.play, "b"); got != max(c.needB, 0) || ok != (c.needB >= 0) {
			t.Errorf("FewestToWin(%v, %q, b) = %d %v", c.r, c.play, got, ok)
		}
		if c.winner != "-" {
			checkNoRacePlay(t, c.r, c.play+"a")
			checkNoRacePlay(t, c.r, c.play+"b")
			checkNoRacePlay(t, c.r, c.play+c.play)
		}
	}
}

// TestPlaysAtMaxPlay looks at plays of 100 points: what the next point would do is told, though no play has so many.
func TestPlaysAtMaxPlay(t *testing.T) {
	for _, c := range []struct {
		r                  impl.Race
		play, winner, next string
		needA, needB       int
	}{
		{race(1, 2), deuces(50), "-", "", 2, 2}, {race(1, 2), deuces(49) + "aa", "a", "", 0, -1}, {race(1, 2), deuces(49) + "bb", "b", "", -1, 0}, {race(30, 2), strings.Repeat("ba", 50), "-", "", 2, 2},
		{race(1, 3), deuces(49) + "aa", "-", "a", 1, 5}, {race(1, 3), deuces(49) + "bb", "-", "b", 5, 1}, {race(30, 3), deuces(50), "-", "", 3, 3},
		{race(4, 4), deuces(48) + "aaaa", "a", "", 0, -1}, {race(4, 4), deuces(49) + "bb", "-", "", 6, 2}, {race(30, 5), deuces(50), "-", "", 5, 5}, {race(30, 5), deuces(48) + "bbbb", "-", "b", 9, 1},
	} {
		if len(c.play) != 100 {
			t.Fatal(c.play)
		}
		checkRacePlay(t, c.r, c.play)
		if got, ok := impl.WinnerOf(c.r, c.play); got != c.winner || !ok {
			t.Errorf("WinnerOf(%v, %q) = %q %v", c.r, c.play, got, ok)
		}
		if got, ok := impl.NextWinners(c.r, c.play); got != c.next || !ok {
			t.Errorf("NextWinners(%v, %q) = %q %v", c.r, c.play, got, ok)
		}
		for side, need := range map[string]int{"a": c.needA, "b": c.needB} {
			if got, ok := impl.FewestToWin(c.r, c.play, side); got != max(need, 0) || ok != (need >= 0) {
				t.Errorf("FewestToWin(%v, %q, %s) = %d %v", c.r, c.play, side, got, ok)
			}
		}
		for _, text := range []string{c.play + "a", c.play + "b", c.play + c.play, strings.Repeat(c.play, 4)} {
			checkNoRacePlay(t, c.r, text)
			checkNoPoints(t, text)
		}
		checkAsPlay(t, c.r, c.play[1:])
	}
}

// randomPlay returns a play of at most so many points, the longer the more often it comes back to a lead of none.
func randomPlay(rnd *rand.Rand, r impl.Race, most int) string {
	play, lead, back := "", 0, rnd.Intn(4)
	for len(play) < most && wonBehind(r, play) == "" {
		side := "ab"[rnd.Intn(2):][:1]
		if lead != 0 && rnd.Intn(4) < back {
			side = map[bool]string{true: "b", false: "a"}[lead > 0]
		}
		play += side
		lead += map[string]int{"a": 1, "b": -1}[side]
	}
	return play
}

// TestRandomPlays holds promise 7 for plays of all races, ranks among them.
func TestRandomPlays(t *testing.T) {
	rnd := rand.New(rand.NewSource(1))
	ended, long := 0, 0
	for _, r := range everyRace() {
		for range 12 {
			play := randomPlay(rnd, r, 1+rnd.Intn(100))
			checkRacePlay(t, r, play)
			checkRankOfPlay(t, r, play)
			if wonBehind(r, play) != "" {
				ended++
				checkNoRacePlay(t, r, play+"a")
				checkNoRacePlay(t, r, play+"b")
			}
			if len(play) > 60 {
				long++
			}
			cut := rnd.Intn(len(play))
			checkAsPlay(t, r, play[:cut])
			checkAsPlay(t, r, play[cut:])
			checkAsPlay(t, r, play+play)
			checkNoRacePlay(t, r, play[:cut]+" "+play[cut:])
		}
	}
	if ended < 300 || long < 100 {
		t.Errorf("only %d of the plays are ended, and %d have more than 60 points", ended, long)
	}
}

// waysTo counts how plays of a race go on to a score, in numbers of any size.
type waysTo struct {
	r     impl.Race
	a, b  int
	known map[[2]int]*big.Int
}

func newWaysTo(r impl.Race, a, b int) waysTo {
	return waysTo{r: r, a: a, b: b, known: map[[2]int]*big.Int{}}
}

func (w waysTo) from(x, y int) *big.Int {
	if x > w.a || y > w.b {
		return new(big.Int)
	}
	if x == w.a && y == w.b {
		return big.NewInt(1)
	}
	if w.known[[2]int{x, y}] == nil {
		ways := new(big.Int)
		if wonBy(w.r, x, y) == "" {
			ways.Add(w.from(x+1, y), w.from(x, y+1))
		}
		w.known[[2]int{x, y}] = ways
	}
	return w.known[[2]int{x, y}]
}

// rank adds up the plays that part from one at each of its letters b, with an a.
func (w waysTo) rank(play string) *big.Int {
	rank := new(big.Int)
	for i := range len(play) {
		if play[i] == 'b' {
			x, y := lettersOf(play[:i])
			rank.Add(rank, w.from(x+1, y))
		}
	}
	return rank
}

// play returns the play of a rank that there is.
func (w waysTo) play(rank *big.Int) string {
	play, rest := "", new(big.Int).Set(rank)
	for len(play) < w.a+w.b {
		x, y := lettersOf(play)
		if before := w.from(x+1, y); rest.Cmp(before) < 0 {
			play += "a"
		} else {
			rest.Sub(rest, before)
			play += "b"
		}
	}
	return play
}

// checkRankOfPlay holds the rank of a play, and that it leads back if there are not too many plays.
func checkRankOfPlay(t *testing.T, r impl.Race, play string) {
	t.Helper()
	a, b := lettersOf(play)
	ways := newWaysTo(r, a, b)
	want := ways.rank(play)
	got, ok := impl.RankOfPlay(r, play)
	checkLimited(t, "RankOfPlay of "+textOfRace(r)+" "+play, got, ok, want, impl.MaxPlays)
	if ways.from(0, 0).Cmp(big.NewInt(impl.MaxPlays)) <= 0 {
		if back, ok := impl.PlayOfRank(r, a, b, got); back != play || !ok {
			t.Errorf("PlayOfRank(%v, %d, %d, %d) = %q %v, want %q", r, a, b, got, back, ok, play)
		}
	}
}

func textOfRace(r impl.Race) string { return strconv.Itoa(r.To) + "+" + strconv.Itoa(r.Lead) }

// TestAllRanksOfShortPlays holds counts, first plays and ranks against all plays in their order.
func TestAllRanksOfShortPlays(t *testing.T) {
	most := map[impl.Race]int{race(3, 2): 14, race(2, 5): 13, race(5, 1): 13}
	for _, r := range append(everyRace()[:7*5], race(30, 1), race(30, 5)) {
		length := max(most[r], 10)
		byScore, ended, open := map[[2]int][]string{}, map[int]int{}, map[int]int{}
		for _, play := range playsUpTo(r, length) {
			a, b := lettersOf(play)
			byScore[[2]int{a, b}] = append(byScore[[2]int{a, b}], play)
			if wonBy(r, a, b) == "" {
				open[len(play)]++
			} else {
				ended[len(play)]++
			}
		}
		for n := range length + 1 {
			checkEnds(t, r, n, big.NewInt(int64(ended[n])), big.NewInt(int64(open[n])))
			for a := range n + 1 {
				checkPlaysTo(t, r, a, n-a, byScore[[2]int{a, n - a}])
			}
		}
	}
}

// checkEnds holds how many plays of so many points are ended, and how many are open.
func checkEnds(t *testing.T, r impl.Race, n int, ended, open *big.Int) {
	t.Helper()
	if got, ok := impl.CountEnded(r, n); int64(got) != ended.Int64() || !ended.IsInt64() || !ok {
		t.Errorf("CountEnded(%v, %d) = %d %v, want %v", r, n, got, ok, ended)
	}
	if got, ok := impl.CountOpenPlays(r, n); int64(got) != open.Int64() || !open.IsInt64() || !ok {
		t.Errorf("CountOpenPlays(%v, %d) = %d %v, want %v", r, n, got, ok, open)
	}
}

// checkPlaysTo holds what is told of a score to which all plays are known, in order.
func checkPlaysTo(t *testing.T, r impl.Race, a, b int, plays []string) {
	t.Helper()
	checkRaceScore(t, r, a, b, big.NewInt(int64(len(plays))))
	for k, play := range plays {
		if got, ok := impl.RankOfPlay(r, play); got != k || !ok {
			t.Errorf("RankOfPlay(%v, %q) = %d %v, want %d", r, play, got, ok, k)
		}
		if got, ok := impl.PlayOfRank(r, a, b, k); got != play || !ok {
			t.Errorf("PlayOfRank(%v, %d, %d, %d) = %q %v, want %q", r, a, b, k, got, ok, play)
		}
	}
}

// checkRaceScore holds what is told of a score to which so many plays lead.
func checkRaceScore(t *testing.T, r impl.Race, a, b int, many *big.Int) {
	t.Helper()
	some := many.Sign() > 0
	if got, ok := impl.EndsAt(r, a, b); got != (some && wonBy(r, a, b) != "") || !ok {
		t.Errorf("EndsAt(%v, %d, %d) = %v %v", r, a, b, got, ok)
	}
	name := " of " + textOfRace(r) + " to " + strconv.Itoa(a) + " and " + strconv.Itoa(b)
	got, ok := impl.CountPlaysTo(r, a, b)
	checkLimited(t, "CountPlaysTo"+name, got, ok, many, impl.MaxPlays)
	ways := newWaysTo(r, a, b)
	checkFirstPlay(t, ways, some)
	if !many.IsInt64() || many.Int64() > impl.MaxPlays {
		for _, rank := range []int{-1, 0, 1, impl.MaxPlays, impl.MaxPlays + 1, math.MaxInt} {
			checkNoPlayOfRank(t, r, a, b, rank)
		}
		return
	}
	all := int(many.Int64())
	for _, rank := range []int{0, all / 2, all - 1} {
		if !some {
			continue
		}
		want := ways.play(big.NewInt(int64(rank)))
		if play, ok := impl.PlayOfRank(r, a, b, rank); play != want || !ok {
			t.Errorf("PlayOfRank%s, %d = %q %v, want %q", name, rank, play, ok, want)
		}
		if back, ok := impl.RankOfPlay(r, want); back != rank || !ok {
			t.Errorf("RankOfPlay(%v, %q) = %d %v, want %d", r, want, back, ok, rank)
		}
	}
	for _, rank := range []int{-1, all, all + 1, math.MinInt, math.MaxInt} {
		checkNoPlayOfRank(t, r, a, b, rank)
	}
}

// checkFirstPlay holds the first play to a score, however many there are.
func checkFirstPlay(t *testing.T, ways waysTo, some bool) {
	t.Helper()
	want := ""
	if some {
		want = ways.play(new(big.Int))
	}
	if got, ok := impl.FirstPlayTo(ways.r, ways.a, ways.b); got != want || ok != some {
		t.Errorf("FirstPlayTo(%v, %d, %d) = %q %v, want %q", ways.r, ways.a, ways.b, got, ok, want)
	}
	if some && !isPlayIn(ways.r, want) {
		t.Errorf("%q is no play of %v", want, ways.r)
	}
}

func checkNoPlayOfRank(t *testing.T, r impl.Race, a, b, rank int) {
	t.Helper()
	if play, ok := impl.PlayOfRank(r, a, b, rank); play != "" || ok {
		t.Errorf("PlayOfRank(%v, %d, %d, %d) = %q %v", r, a, b, rank, play, ok)
	}
}

// playCounts counts the plays to each score of at most so many points, from no points on.
func playCounts(r impl.Race, most int) map[[2]int]*big.Int {
	counts := map[[2]int]*big.Int{}
	for n := range most + 1 {
		for a := range n + 1 {
			counts[[2]int{a, n - a}] = new(big.Int)
		}
	}
	counts[[2]int{}].SetInt64(1)
	for n := range most {
		for a := range n + 1 {
			b := n - a
			if wonBy(r, a, b) != "" {
				continue
			}
			for _, next := range [][2]int{{a + 1, b}, {a, b + 1}} {
				counts[next].Add(counts[next], counts[[2]int{a, b}])
			}
		}
	}
	return counts
}

// TestScoresOfAllRaces looks at some scores of each race, those that are nearly even more often.
func TestScoresOfAllRaces(t *testing.T) {
	rnd := rand.New(rand.NewSource(2))
	for _, r := range everyRace() {
		counts := playCounts(r, 100)
		for range 10 {
			a, lead := rnd.Intn(51), rnd.Intn(7)
			b := min(a+lead, 100-a)
			for _, score := range [][2]int{{a, b}, {b, a}} {
				checkRaceScore(t, r, score[0], score[1], counts[score])
			}
			a = rnd.Intn(101)
			b = rnd.Intn(101 - a)
			checkRaceScore(t, r, a, b, counts[[2]int{a, b}])
		}
		for n := range 51 {
			ended, open := new(big.Int), new(big.Int)
			for a := range n + 1 {
				if wonBy(r, a, n-a) == "" {
					open.Add(open, counts[[2]int{a, n - a}])
				} else {
					ended.Add(ended, counts[[2]int{a, n - a}])
				}
			}
			checkEnds(t, r, n, ended, open)
		}
	}
}

// TestAllScores looks at all scores of a few races.
func TestAllScores(t *testing.T) {
	for _, r := range []impl.Race{race(1, 1), race(1, 2), race(30, 5), race(21, 2), race(29, 1)} {
		counts := playCounts(r, 100)
		for score, many := range counts {
			if got, ok := impl.EndsAt(r, score[0], score[1]); got != (many.Sign() > 0 && wonBy(r, score[0], score[1]) != "") || !ok {
				t.Errorf("EndsAt(%v, %v) = %v %v", r, score, got, ok)
			}
			got, ok := impl.CountPlaysTo(r, score[0], score[1])
			checkLimited(t, "CountPlaysTo of "+textOfRace(r), got, ok, many, impl.MaxPlays)
			if got, ok := impl.FirstPlayTo(r, score[0], score[1]); ok != (many.Sign() > 0) || ok && !isPlayIn(r, got) || !ok && got != "" {
				t.Errorf("FirstPlayTo(%v, %v) = %q %v", r, score, got, ok)
			}
		}
	}
}

// TestScoresAtWhichNoPlayEnds looks at scores at which a side would have won before, or has not won yet; -1 stands for more than MaxPlays plays.
func TestScoresAtWhichNoPlayEnds(t *testing.T) {
	for _, c := range []struct {
		r    impl.Race
		a, b int
		many int
		ends bool
	}{
		{race(1, 1), 0, 0, 1, false}, {race(1, 1), 1, 0, 1, true}, {race(1, 1), 0, 1, 1, true}, {race(1, 1), 1, 1, 0, false}, {race(1, 1), 2, 0, 0, false}, {race(1, 1), 2, 1, 0, false}, {race(1, 1), 50, 50, 0, false}, {race(1, 1), 100, 0, 0, false},
		{race(30, 5), 30, 0, 1, true}, {race(30, 5), 0, 30, 1, true}, {race(30, 5), 31, 0, 0, false}, {race(30, 5), 30, 25, -1, true}, {race(30, 5), 50, 45, -1, true}, {race(30, 5), 52, 47, -1, true}, {race(30, 5), 50, 50, -1, false}, {race(30, 5), 48, 52, -1, false}, {race(30, 5), 47, 53, 0, false},
		{race(5, 1), 5, 5, 0, false}, {race(5, 1), 4, 4, 70, false}, {race(5, 1), 5, 4, 70, true}, {race(5, 1), 6, 5, 0, false}, {race(5, 1), 6, 4, 0, false},
		{race(1, 2), 49, 49, 1 << 49, false}, {race(1, 2), 51, 49, 1 << 49, true}, {race(1, 2), 49, 51, 1 << 49, true}, {race(1, 2), 50, 50, -1, false}, {race(1, 2), 50, 49, 1 << 49, false}, {race(1, 2), 52, 48, 0, false}, {race(1, 2), 2, 0, 1, true}, {race(1, 2), 1, 0, 1, false},
		{race(3, 3), 3, 0, 1, true}, {race(3, 3), 4, 1, 3, true}, {race(3, 3), 3, 3, 18, false},
	} {
		many, ok := impl.CountPlaysTo(c.r, c.a, c.b)
		if many != max(c.many, 0) || ok != (c.many >= 0) {
			t.Errorf("CountPlaysTo(%v, %d, %d) = %d %v, want %d", c.r, c.a, c.b, many, ok, c.many)
		}
		if got, ok := impl.EndsAt(c.r, c.a, c.b); got != c.ends || !ok {
			t.Errorf("EndsAt(%v, %d, %d) = %v %v", c.r, c.a, c.b, got, ok)
		}
		checkRaceScore(t, c.r, c.a, c.b, newWaysTo(c.r, c.a, c.b).from(0, 0))
	}
}

// TestRanksBeyondMaxPlays holds ranks next to MaxPlays. No race has just MaxPlays plays to a score; the two scores that come nearest are here.
func TestRanksBeyondMaxPlays(t *testing.T) {
	for _, c := range []struct {
		r    impl.Race
		a, b int
		many int64
	}{
		{race(24, 3), 27, 28, 1000361833403400}, {race(24, 3), 30, 27, 1000361833403400}, {race(30, 1), 29, 29, 0}, {race(30, 5), 50, 50, 0}, {race(30, 5), 45, 50, 0}, {race(1, 2), 50, 50, 1 << 50}, {race(1, 5), 48, 52, 0}, {race(2, 4), 51, 47, 0},
	} {
		ways := newWaysTo(c.r, c.a, c.b)
		all := ways.from(0, 0)
		if c.many != 0 && (!all.IsInt64() || all.Int64() != c.many) {
			t.Fatalf("the plays of %v to %d and %d are %v", c.r, c.a, c.b, all)
		}
		last := new(big.Int).Sub(all, big.NewInt(1))
		ranks := []*big.Int{new(big.Int), big.NewInt(1), big.NewInt(impl.MaxPlays - 1), big.NewInt(impl.MaxPlays), big.NewInt(impl.MaxPlays + 1), last}
		for _, rank := range ranks {
			play := ways.play(rank)
			got, ok := impl.RankOfPlay(c.r, play)
			checkLimited(t, "RankOfPlay of "+textOfRace(c.r)+" "+play, got, ok, rank, impl.MaxPlays)
			checkRacePlay(t, c.r, play)
		}
		checkRaceScore(t, c.r, c.a, c.b, all)
	}
	const below = 991837065896208
	checkRaceScore(t, race(27, 2), 29, 27, big.NewInt(below))
	if got, ok := impl.CountPlaysTo(race(27, 2), 29, 27); got != below || !ok {
		t.Error("CountPlaysTo next below MaxPlays", got, ok)
	}
	if got, ok := impl.CountPlaysTo(race(24, 3), 27, 28); got != 0 || ok {
		t.Error("CountPlaysTo next above MaxPlays", got, ok)
	}
	if play, ok := impl.PlayOfRank(race(27, 2), 29, 27, below-1); play == "" || !ok {
		t.Error("PlayOfRank of the last play", play, ok)
	}
	checkNoPlayOfRank(t, race(27, 2), 29, 27, below)
}

// TestRanksAreInOrder takes plays rank by rank: each comes before the next one, with points that are the same.
func TestRanksAreInOrder(t *testing.T) {
	for _, c := range []struct {
		r           impl.Race
		a, b, start int
	}{{race(3, 2), 4, 2, 0}, {race(30, 5), 20, 20, 137846528000}, {race(30, 5), 20, 20, 137846528820 - 50}, {race(1, 2), 49, 49, 1<<49 - 20}, {race(1, 5), 12, 11, 0}, {race(27, 2), 29, 27, 991837065896208 - 30}} {
		before := ""
		many, _ := impl.CountPlaysTo(c.r, c.a, c.b)
		for k := range min(50, many-c.start) {
			play, ok := impl.PlayOfRank(c.r, c.a, c.b, c.start+k)
			if a, b := lettersOf(play); !ok || a != c.a || b != c.b || !isPlayIn(c.r, play) || play <= before {
				t.Errorf("PlayOfRank(%v, %d, %d, %d) = %q %v behind %q", c.r, c.a, c.b, c.start+k, play, ok, before)
			}
			checkRankOfPlay(t, c.r, play)
			before = play
		}
		checkNoPlayOfRank(t, c.r, c.a, c.b, many)
	}
}

func TestFirstPlays(t *testing.T) {
	for _, c := range []struct {
		r    impl.Race
		a, b int
		want string
		fine bool
	}{
		{race(3, 2), 0, 0, "", true}, {race(3, 2), 3, 0, "aaa", true}, {race(3, 2), 3, 1, "aaba", true}, {race(3, 2), 1, 3, "abbb", true}, {race(3, 2), 4, 2, "aabbaa", true}, {race(3, 2), 3, 3, "aabbab", true}, {race(3, 2), 5, 5, "aabbababab", true},
		{race(3, 2), 4, 0, "", false}, {race(3, 2), 4, 1, "", false}, {race(1, 1), 1, 1, "", false}, {race(1, 1), 1, 0, "a", true}, {race(1, 2), 50, 50, deuces(50), true}, {race(1, 2), 49, 51, deuces(49) + "bb", true},
		{race(30, 5), 30, 0, strings.Repeat("a", 30), true}, {race(30, 5), 30, 1, strings.Repeat("a", 29) + "ba", true}, {race(30, 5), 31, 0, "", false}, {race(1, 5), 5, 1, "aaaaba", true}, {race(1, 5), 3, 7, "aaabbbbbbb", true},
		{race(1, 5), 3, 8, "aaabbbbbbbb", true}, {race(30, 1), 29, 29, strings.Repeat("a", 29) + strings.Repeat("b", 29), true}, {race(30, 1), 29, 30, strings.Repeat("a", 29) + strings.Repeat("b", 30), true}, {race(30, 1), 30, 30, "", false},
	} {
		if got, ok := impl.FirstPlayTo(c.r, c.a, c.b); got != c.want || ok != c.fine {
			t.Errorf("FirstPlayTo(%v, %d, %d) = %q %v, want %q", c.r, c.a, c.b, got, ok, c.want)
		}
	}
}

func TestCountsByEnd(t *testing.T) {
	for _, c := range []struct {
		r                   impl.Race
		points, ended, open int
	}{
		{race(1, 1), 0, 0, 1}, {race(1, 1), 1, 2, 0}, {race(1, 1), 2, 0, 0}, {race(1, 1), 50, 0, 0}, {race(30, 5), 0, 0, 1}, {race(30, 5), 29, 0, 1 << 29}, {race(30, 5), 30, 2, 1<<30 - 2},
		{race(3, 2), 3, 2, 6}, {race(3, 2), 4, 6, 6}, {race(3, 2), 5, 0, 12}, {race(3, 2), 6, 12, 12}, {race(1, 2), 50, 1 << 25, 1 << 25}, {race(1, 2), 49, 0, 1 << 25}, {race(1, 2), 2, 2, 2},
	} {
		checkEnds(t, c.r, c.points, big.NewInt(int64(c.ended)), big.NewInt(int64(c.open)))
	}
	for _, r := range append(noRaces(), race(3, 2), race(1, 1), race(30, 5)) {
		for _, n := range append([]int{51, 52, 100, 101}, wildInts...) {
			if impl.IsRace(r) && n >= 0 && n <= 50 {
				continue
			}
			if got, ok := impl.CountEnded(r, n); got != 0 || ok {
				t.Errorf("CountEnded(%v, %d) = %d %v", r, n, got, ok)
			}
			if got, ok := impl.CountOpenPlays(r, n); got != 0 || ok {
				t.Errorf("CountOpenPlays(%v, %d) = %d %v", r, n, got, ok)
			}
		}
	}
}

// TestCountsAtOnce holds that counts are the same however goroutines take turns, those within calls and those that call.
func TestCountsAtOnce(t *testing.T) {
	counts := playCounts(race(20, 3), 50)
	ended := new(big.Int)
	for a := range 51 {
		if wonBy(race(20, 3), a, 50-a) != "" {
			ended.Add(ended, counts[[2]int{a, 50 - a}])
		}
	}
	var group sync.WaitGroup
	for range 16 {
		group.Go(func() {
			for range 20 {
				if got, ok := impl.CountEnded(race(20, 3), 50); int64(got) != ended.Int64() || !ok {
					t.Errorf("CountEnded = %d %v, want %v", got, ok, ended)
				}
				if got, ok := impl.CountOpenPlays(race(3, 2), 6); got != 12 || !ok {
					t.Errorf("CountOpenPlays = %d %v", got, ok)
				}
			}
		})
	}
	group.Wait()
}

func TestGreatestComeback(t *testing.T) {
	for _, c := range []struct {
		r    impl.Race
		play string
		want int
		fine bool
	}{
		{race(3, 2), "aabbbb", 2, true}, {race(3, 2), "bbaaaa", 2, true}, {race(3, 2), "aaa", 0, true}, {race(3, 2), "bbb", 0, true}, {race(3, 2), "abab" + "aa", 0, true}, {race(3, 2), "baab" + "aa", 1, true}, {race(3, 2), "aabb", 0, false}, {race(3, 2), "", 0, false},
		{race(1, 1), "a", 0, true}, {race(1, 1), "b", 0, true}, {race(1, 5), "aaaa" + strings.Repeat("b", 9), 4, true}, {race(30, 1), strings.Repeat("a", 29) + strings.Repeat("b", 30), 29, true}, {race(30, 5), strings.Repeat("b", 29) + strings.Repeat("a", 34), 29, true},
		{race(4, 2), "abbaabbbb", 0, false}, {race(5, 2), "bbaabbaa" + "bb", 0, true}, {race(4, 2), "abbaabba" + "bb", 1, true}, {race(3, 2), "aaaa", 0, false}, {race(3, 2), "aaac", 0, false},
	} {
		if got, ok := impl.GreatestComeback(c.r, c.play); got != c.want || ok != c.fine {
			t.Errorf("GreatestComeback(%v, %q) = %d %v, want %d %v", c.r, c.play, got, ok, c.want, c.fine)
		}
	}
}

// runIn cuts a text into its runs, and returns the first one of the longest.
func runIn(text string) string {
	longest := ""
	for text != "" {
		rest := strings.TrimLeft(text, text[:1])
		if run := text[:len(text)-len(rest)]; len(run) > len(longest) {
			longest = run
		}
		text = rest
	}
	return longest
}

// checkPoints holds what is told of points without a race.
func checkPoints(t *testing.T, text string) {
	t.Helper()
	run := runIn(text)
	if side, many, ok := impl.LongestRun(text); ok != (text != "") || many != len(run) || side != run[:min(len(run), 1)] {
		t.Errorf("LongestRun(%q) = %q %d %v, want %q", text, side, many, ok, run)
	}
	turned := strings.NewReplacer("a", "b", "b", "a").Replace(text)
	if got, ok := impl.TurnPlay(text); got != turned || !ok {
		t.Errorf("TurnPlay(%q) = %q %v", text, got, ok)
	}
	for turn := 1; turn <= 10; turn++ {
		servers := strings.Repeat(strings.Repeat("a", turn)+strings.Repeat("b", turn), 50)[:len(text)]
		if got, ok := impl.ServersOf(text, turn); got != servers || !ok {
			t.Errorf("ServersOf(%q, %d) = %q %v, want %q", text, turn, got, ok, servers)
		}
		var a, b int
		for i := range len(text) {
			switch text[i:i+1] + servers[i:i+1] {
			case "aa":
				a++
			case "bb":
				b++
			}
		}
		if x, y, ok := impl.PointsOnServe(text, turn); x != a || y != b || !ok {
			t.Errorf("PointsOnServe(%q, %d) = %d %d %v, want %d %d", text, turn, x, y, ok, a, b)
		}
	}
	checkNoTurns(t, text)
}

// checkNoTurns holds that nobody serves by turns of other lengths.
func checkNoTurns(t *testing.T, text string) {
	t.Helper()
	for _, turn := range []int{math.MinInt, -10, -1, 0, 11, 12, 100, math.MaxInt} {
		if got, ok := impl.ServersOf(text, turn); got != "" || ok {
			t.Errorf("ServersOf(%.200q, %d) = %q %v", text, turn, got, ok)
		}
		if a, b, ok := impl.PointsOnServe(text, turn); a != 0 || b != 0 || ok {
			t.Errorf("PointsOnServe(%.200q, %d) = %d %d %v", text, turn, a, b, ok)
		}
	}
}

// checkNoPoints holds that a text fails wherever points are required, with zero results.
func checkNoPoints(t *testing.T, text string) {
	t.Helper()
	if side, many, ok := impl.LongestRun(text); side != "" || many != 0 || ok {
		t.Errorf("LongestRun(%.200q) = %q %d %v", text, side, many, ok)
	}
	if got, ok := impl.TurnPlay(text); got != "" || ok {
		t.Errorf("TurnPlay(%.200q) = %q %v", text, got, ok)
	}
	for turn := 1; turn <= 10; turn++ {
		if got, ok := impl.ServersOf(text, turn); got != "" || ok {
			t.Errorf("ServersOf(%.200q, %d) = %q %v", text, turn, got, ok)
		}
		if a, b, ok := impl.PointsOnServe(text, turn); a != 0 || b != 0 || ok {
			t.Errorf("PointsOnServe(%.200q, %d) = %d %d %v", text, turn, a, b, ok)
		}
	}
	checkNoTurns(t, text)
}

// TestPointsWithoutARace looks at texts that need not be a play of any one race.
func TestPointsWithoutARace(t *testing.T) {
	for _, text := range everyText("ab", 9) {
		checkPoints(t, text)
	}
	for _, text := range everyText("abc", 5) {
		if strings.Contains(text, "c") {
			checkNoPoints(t, text)
		}
	}
	rnd := rand.New(rand.NewSource(3))
	for range 300 {
		text := ""
		for length := rnd.Intn(101); len(text) < length; {
			text += strings.Repeat("ab"[rnd.Intn(2):][:1], 1+rnd.Intn(4))
		}
		checkPoints(t, text[:min(len(text), 100)])
	}
	for _, text := range []string{strings.Repeat("a", 100), strings.Repeat("b", 100), deuces(50), strings.Repeat("aab", 33) + "b", strings.Repeat("ab", 49) + "bb"} {
		checkPoints(t, text)
		checkNoPoints(t, text+"a")
		checkNoPoints(t, text+"b")
		checkNoPoints(t, text[1:]+"c")
	}
}

func TestLongestRun(t *testing.T) {
	for text, want := range map[string]string{
		"a": "a", "b": "b", "ab": "a", "ba": "b", "abb": "bb", "aabb": "aa", "bbaa": "bb", "abbaab": "bb", "baabb": "aa", "aabbbaaa": "bbb", "abab": "a", "aabbabbb": "bbb", "bababaa": "aa", "aaabbbaaab": "aaa",
	} {
		if side, many, ok := impl.LongestRun(text); side != want[:1] || many != len(want) || !ok {
			t.Errorf("LongestRun(%q) = %q %d %v, want %q", text, side, many, ok, want)
		}
	}
	if side, many, ok := impl.LongestRun(""); side != "" || many != 0 || ok {
		t.Error("LongestRun of no points", side, many, ok)
	}
}

func TestServers(t *testing.T) {
	for _, c := range []struct {
		play    string
		turn    int
		servers string
		a, b    int
	}{
		{"", 1, "", 0, 0}, {"", 10, "", 0, 0}, {"a", 1, "a", 1, 0}, {"b", 1, "a", 0, 0}, {"aabba", 1, "ababa", 2, 1}, {"aabba", 2, "aabba", 3, 2}, {"aabba", 3, "aaabb", 2, 1}, {"aabba", 5, "aaaaa", 3, 0}, {"aabba", 10, "aaaaa", 3, 0},
		{"bbbbbbbbbbbb", 10, "aaaaaaaaaabb", 0, 2}, {"bbbbbbbbbbbbbbbbbbbbba", 10, "aaaaaaaaaabbbbbbbbbbaa", 1, 10}, {"bbbbbbaa", 2, "aabbaabb", 0, 2},
	} {
		if got, ok := impl.ServersOf(c.play, c.turn); got != c.servers || !ok {
			t.Errorf("ServersOf(%q, %d) = %q %v", c.play, c.turn, got, ok)
		}
		if a, b, ok := impl.PointsOnServe(c.play, c.turn); a != c.a || b != c.b || !ok {
			t.Errorf("PointsOnServe(%q, %d) = %d %d %v", c.play, c.turn, a, b, ok)
		}
	}
}

// TestMatches puts matches together from plays that a side has won, that are open, and that are none.
func TestMatches(t *testing.T) {
	for _, c := range []struct {
		r     impl.Race
		plays map[rune]string
	}{
		{race(3, 2), map[rune]string{'a': "abaa", 'b': "aabbbb", '-': "aabb", 'x': "aaaa"}},
		{race(1, 1), map[rune]string{'a': "a", 'b': "b", '-': "", 'x': "aa"}},
		{race(1, 2), map[rune]string{'a': deuces(49) + "aa", 'b': deuces(49) + "bb", '-': deuces(50), 'x': deuces(50) + "a"}},
		{race(30, 5), map[rune]string{'a': strings.Repeat("a", 30), 'b': strings.Repeat("b", 30), '-': strings.Repeat("b", 29), 'x': "c"}},
	} {
		texts := everyText("ab-x", 4)
		if c.r.To < 4 {
			texts = append(texts, everyText("ab", 10)...)
		}
		texts = append(texts, "ababababa", "ababababb", "abababab", "ababababab", "ababababax", "abababab-", "abababab-a", "aaaaa", "aaaab", "bbbbb", "aaaaaa", "bbbba", "aaaaaaaaaa")
		for _, winners := range texts {
			var list []string
			for _, winner := range winners {
				list = append(list, c.plays[winner])
			}
			kept := slices.Clone(list)
			for wins := -1; wins <= 7; wins++ {
				want, fine := matchOf(winners, wins, 9, 5)
				if got, ok := impl.MatchOf(c.r, list, wins); got != want || ok != fine {
					t.Errorf("MatchOf(%v, %s, %d) = %q %v, want %q %v", c.r, winners, wins, got, ok, want, fine)
				}
			}
			if !slices.Equal(list, kept) {
				t.Fatal("MatchOf changed its plays", winners)
			}
		}
	}
}

func TestMatchesAtTheLimits(t *testing.T) {
	r := race(3, 2)
	for _, wins := range append([]int{5, 6, 9, 10}, wildInts...) {
		for _, list := range [][]string{nil, {}} {
			want, fine := "", wins >= 1 && wins <= 5
			if fine {
				want = "-"
			}
			if got, ok := impl.MatchOf(r, list, wins); got != want || ok != fine {
				t.Errorf("MatchOf of no plays, %d = %q %v", wins, got, ok)
			}
			for _, none := range noRaces() {
				if got, ok := impl.MatchOf(none, list, wins); got != "" || ok {
					t.Errorf("MatchOf(%v) of no plays, %d = %q %v", none, wins, got, ok)
				}
			}
		}
	}
	for _, list := range [][]string{slices.Repeat([]string{"aaa"}, 10), slices.Repeat([]string{"aaa", "bbb"}, 5), slices.Repeat([]string{"aabb"}, 9), slices.Repeat([]string{""}, 100000), {"aaa", ""}, {"aaa", "aaa "}, {"aaa", strings.Repeat("a", 1<<20)}, {"aaa", "aaa", "aaa", "aaa", "aaa", "bbb"}} {
		if got, ok := impl.MatchOf(r, list, 5); got != "" || ok {
			t.Errorf("MatchOf of %d plays = %q %v", len(list), got, ok)
		}
	}
	nine := []string{"aaa", "bbb", "aaba", "abbb", "abaa", "babb", "baaa", "aabbbb", "bbaaaa"}
	if got, ok := impl.MatchOf(r, nine, 5); got != "a" || !ok {
		t.Error("MatchOf 9 plays", got, ok)
	}
	if got, ok := impl.MatchOf(r, nine[:8], 5); got != "-" || !ok {
		t.Error("MatchOf 8 plays", got, ok)
	}
	if got, ok := impl.MatchOf(r, nine, 4); got != "" || ok {
		t.Error("MatchOf with plays behind the end", got, ok)
	}
}

// TestMatchesKeepTheirPlays holds promise 11: plays and the room behind them are neither written nor read.
func TestMatchesKeepTheirPlays(t *testing.T) {
	whole := []string{"aaa", "bbb", "aaa", "x", "", "bbb"}
	kept := slices.Clone(whole)
	for many := range len(whole) + 1 {
		for wins := range 7 {
			impl.MatchOf(race(3, 2), whole[:many], wins)
		}
	}
	if got, ok := impl.MatchOf(race(3, 2), whole[:3], 2); got != "a" || !ok {
		t.Error("MatchOf with room behind", got, ok)
	}
	if got, ok := impl.MatchOf(race(3, 2), whole[:2], 2); got != "-" || !ok {
		t.Error("MatchOf with a play behind", got, ok)
	}
	if !slices.Equal(whole, kept) {
		t.Error("the plays became", whole)
	}
}

// TestTurnedPlays holds that both sides are treated alike.
func TestTurnedPlays(t *testing.T) {
	rnd := rand.New(rand.NewSource(4))
	for _, r := range everyRace() {
		play := randomPlay(rnd, r, 1+rnd.Intn(100))
		turned, ok := impl.TurnPlay(play)
		if back, fine := impl.TurnPlay(turned); back != play || !ok || !fine {
			t.Errorf("TurnPlay(%q) = %q %v", turned, back, fine)
		}
		checkRacePlay(t, r, turned)
		a, b := lettersOf(play)
		many, ok := impl.CountPlaysTo(r, a, b)
		if others, fine := impl.CountPlaysTo(r, b, a); others != many || ok != fine {
			t.Errorf("CountPlaysTo(%v, %d, %d) = %d %v, turned %d %v", r, a, b, many, ok, others, fine)
		}
		if !ok {
			continue
		}
		rank, _ := impl.RankOfPlay(r, play)
		if got, ok := impl.RankOfPlay(r, turned); got != many-1-rank || !ok {
			t.Errorf("RankOfPlay(%v, %q) = %d %v, turned it is %d of %d", r, turned, got, ok, rank, many)
		}
	}
}

var raceForm = regexp.MustCompile(`^(?:[1-9]|[12][0-9]|30)\+[1-5]$`)

func checkRaceText(t *testing.T, text string) {
	t.Helper()
	r, ok := impl.ParseRace(text)
	if ok != raceForm.MatchString(text) {
		t.Errorf("ParseRace(%.200q) = %v %v", text, r, ok)
	}
	if !ok {
		if r != (impl.Race{}) {
			t.Errorf("ParseRace(%.200q) = %v", text, r)
		}
		return
	}
	if got, fine := impl.RaceText(r); got != text || !fine {
		t.Errorf("RaceText(%v) = %q %v, want %q", r, got, fine, text)
	}
}

func TestRaceTexts(t *testing.T) {
	for _, r := range everyRace() {
		if got, ok := impl.RaceText(r); got != textOfRace(r) || !ok {
			t.Errorf("RaceText(%v) = %q %v", r, got, ok)
		}
		if got, ok := impl.ParseRace(textOfRace(r)); got != r || !ok {
			t.Errorf("ParseRace(%q) = %v %v", textOfRace(r), got, ok)
		}
	}
	for _, r := range noRaces() {
		if got, ok := impl.RaceText(r); got != "" || ok {
			t.Errorf("RaceText(%v) = %q %v", r, got, ok)
		}
		checkRaceText(t, textOfRace(r))
	}
	for _, text := range everyText("0135+-", 5) {
		checkRaceText(t, text)
	}
	for _, text := range append(noPoints(), "3+2 ", " 3+2", "3 + 2", "3+2\n", "3+2\x00", "\x003+2", "03+2", "3+02", "+3+2", "3++2", "3+-2", "3-2", "3,2", "3+2+1", "3+2+", "3.0+2", "0x3+2", "3_0+2", "3e0+2", "３+2", "3＋2", "31+1", "30+6", "0+1", "1+0", "-1+1", "18446744073709551619+2", "3+18446744073709551618", "9223372036854775807+1", "3+", "+2", "3", "+") {
		checkRaceText(t, text)
	}
	checkRaceText(t, strings.Repeat("0", 1<<20)+"3+2")
	checkRaceText(t, strings.Repeat("3+2", 1<<18))
}

// TestTextsThatAreNoPlays holds promise 11 for texts of all kinds.
func TestTextsThatAreNoPlays(t *testing.T) {
	for _, text := range noPoints() {
		for _, r := range append(noRaces(), race(1, 1), race(3, 2), race(30, 5)) {
			checkAsPlay(t, r, text)
		}
		if !arePoints(text) {
			checkNoPoints(t, text)
		}
	}
	for _, side := range append(noPoints(), "", "aa", "ab", "ba", "bb") {
		for _, play := range []string{"", "aabb", "aaa", "bbb", deuces(50)} {
			if got, ok := impl.FewestToWin(race(3, 2), play, side); got != 0 || ok {
				t.Errorf("FewestToWin(3+2, %q, %.200q) = %d %v", play, side, got, ok)
			}
		}
	}
}

// checkNoRaceScore holds that every function of a score fails, with zero results.
func checkNoRaceScore(t *testing.T, r impl.Race, a, b int) {
	t.Helper()
	if got, ok := impl.EndsAt(r, a, b); got || ok {
		t.Errorf("EndsAt(%v, %d, %d) = %v %v", r, a, b, got, ok)
	}
	if got, ok := impl.CountPlaysTo(r, a, b); got != 0 || ok {
		t.Errorf("CountPlaysTo(%v, %d, %d) = %d %v", r, a, b, got, ok)
	}
	if got, ok := impl.FirstPlayTo(r, a, b); got != "" || ok {
		t.Errorf("FirstPlayTo(%v, %d, %d) = %q %v", r, a, b, got, ok)
	}
	for _, rank := range []int{-1, 0, 1, math.MinInt, math.MaxInt} {
		checkNoPlayOfRank(t, r, a, b, rank)
	}
}

// TestWildRaces holds promise 11 for races and numbers of points that are none.
func TestWildRaces(t *testing.T) {
	for _, r := range noRaces() {
		for _, play := range []string{"", "a", "aabba", "aaa", deuces(50), deuces(51), "c"} {
			checkNoRacePlay(t, r, play)
		}
		for _, score := range [][2]int{{0, 0}, {3, 1}, {1, 1}, {50, 50}, {0, -1}} {
			checkNoRaceScore(t, r, score[0], score[1])
		}
	}
	numbers := append([]int{49, 51, 99, 100, 101}, wildInts...)
	for _, a := range numbers {
		for _, b := range numbers {
			if a >= 0 && b >= 0 && a <= 100 && b <= 100-a {
				checkRaceScore(t, race(3, 2), a, b, newWaysTo(race(3, 2), a, b).from(0, 0))
				continue
			}
			for _, r := range []impl.Race{race(1, 1), race(3, 2), race(1, 2), race(30, 5)} {
				checkNoRaceScore(t, r, a, b)
			}
		}
	}
}
