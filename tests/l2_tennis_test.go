package tests

import (
	"math"
	"math/rand"
	"slices"
	"strconv"
	"strings"
	"testing"

	"loop.example/g01368/impl"
)

// raceEnd tells who has won by numbers of points, straight from the document: at least to points, and 2 more.
func raceEnd(to, a, b int) string {
	if a >= to && a >= b+2 {
		return "a"
	}
	if b >= to && b >= a+2 {
		return "b"
	}
	return ""
}

func lettersOf(text string) (a, b int) {
	return strings.Count(text, "a"), strings.Count(text, "b")
}

func endOf(to int, text string) string {
	a, b := lettersOf(text)
	return raceEnd(to, a, b)
}

// isRally tells whether a text is points: letters a and b, at most 300.
func isRally(text string) bool {
	return strings.Trim(text, "ab") == "" && len(text) <= 300
}

// isPlayOf looks at every beginning of a text: behind none of them but the whole may a side have won.
func isPlayOf(to int, text string) bool {
	for i := range len(text) {
		if endOf(to, text[:i]) != "" {
			return false
		}
	}
	return isRally(text)
}

// setEnd tells who has won a set by numbers of games.
func setEnd(a, b int) string {
	if a >= 6 && a >= b+2 || a == 7 {
		return "a"
	}
	if b >= 6 && b >= a+2 || b == 7 {
		return "b"
	}
	return ""
}

// known is a set of which is told how it was made.
type known struct {
	points string
	games  string
	next   string // the points of the game that is open
}

func (k known) ended() bool {
	a, b := lettersOf(k.games)
	return setEnd(a, b) != ""
}

// gameTarget is how many points the game behind some games is played to.
func gameTarget(games string) int {
	if a, b := lettersOf(games); a == 6 && b == 6 {
		return 7
	}
	return 4
}

// readSet reads a set from its points letter by letter, with no error on the way.
func readSet(points string) (known, bool) {
	k := known{points: points}
	if !isRally(points) {
		return known{}, false
	}
	for _, letter := range points {
		if k.ended() {
			return known{}, false
		}
		k.next += string(letter)
		if winner := endOf(gameTarget(k.games), k.next); winner != "" {
			k.games, k.next = k.games+winner, ""
		}
	}
	return k, true
}

// everyText returns all texts of the letters with at most so many of them.
func everyText(letters string, most int) []string {
	all := []string{""}
	for from := 0; len(all[from]) < most; from++ {
		for _, letter := range letters {
			all = append(all, all[from]+string(letter))
		}
	}
	return all
}

func otherOf(side string) string {
	return map[string]string{"a": "b", "b": "a"}[side]
}

// randomGame returns an ended game, or tie break, that a side wins, the longer the more often it comes to a lead of none.
func randomGame(r *rand.Rand, to int, side string) string {
	text := ""
	for endOf(to, text) == "" {
		a, b := lettersOf(text)
		if a != b && r.Intn(3) > 0 {
			text += map[bool]string{true: "b", false: "a"}[a > b]
		} else {
			text += "ab"[r.Intn(2):][:1]
		}
	}
	if endOf(to, text) != side {
		text = strings.NewReplacer("a", "b", "b", "a").Replace(text)
	}
	return text
}

// randomSet puts random games one behind the other, and cuts the last one somewhere if it is to be open.
func randomSet(r *rand.Rand) known {
	for {
		k := known{}
		for many := r.Intn(16); len(k.games) < many && !k.ended(); {
			side := "ab"[r.Intn(2):][:1]
			k.points += randomGame(r, gameTarget(k.games), side)
			k.games += side
		}
		if !k.ended() {
			game := randomGame(r, gameTarget(k.games), "a")
			k.next = game[:r.Intn(len(game))]
			k.points += k.next
		}
		if len(k.points) <= 300 {
			return k
		}
	}
}

func gameStandOf(text string) string {
	a, b := lettersOf(text)
	if winner := raceEnd(4, a, b); winner != "" {
		return winner
	}
	switch {
	case a >= 3 && b >= 3 && a == b:
		return "="
	case a >= 3 && b >= 3 && a > b:
		return "A"
	case a >= 3 && b >= 3:
		return "B"
	}
	names := []string{"0", "15", "30", "40"}
	return names[a] + ":" + names[b]
}

func tieStandOf(text string) string {
	a, b := lettersOf(text)
	stand := strconv.Itoa(a) + ":" + strconv.Itoa(b)
	if raceEnd(7, a, b) != "" {
		stand += "!"
	}
	return stand
}

// deuces returns points at which both sides have as many.
func deuces(each int) string { return strings.Repeat("ab", each) }

// noPoints are texts that are no points of anything.
func noPoints() []string {
	texts := []string{
		"c", "A", "B", " ", "-", "?", "0", "\n", "\x00", "\xff", "é", "ａ", "а", "a ", " a", "ab\n", "a,b", "a-b", "aB", "abc", "cab", "acb",
		"aaac", "aaa ", "aaaac", "aaaab\x00", "aaaabbbbc", "aaa\xff", "40:30", "aaaa bbbb",
		strings.Repeat("ab", 150) + "a", strings.Repeat("a", 301), strings.Repeat("b", 301), strings.Repeat("a", 1<<20), strings.Repeat("ab", 1<<20), strings.Repeat("c", 1<<20),
	}
	for code := range 256 {
		if code != 'a' && code != 'b' {
			texts = append(texts, string([]byte{byte(code)}), "aba"+string([]byte{byte(code)})+"ba")
		}
	}
	return texts
}

func checkGame(t *testing.T, text string) {
	t.Helper()
	fine, stand := isPlayOf(4, text), ""
	if fine {
		stand = gameStandOf(text)
	}
	if got := impl.IsTennisGame(text); got != fine {
		t.Errorf("IsTennisGame(%q) = %v", text, got)
	}
	if got, ok := impl.GameStands(text); got != stand || ok != fine {
		t.Errorf("GameStands(%q) = %q %v, want %q", text, got, ok, stand)
	}
	fine, stand = isPlayOf(7, text), ""
	if fine {
		stand = tieStandOf(text)
	}
	if got, ok := impl.TieStands(text); got != stand || ok != fine {
		t.Errorf("TieStands(%q) = %q %v, want %q", text, got, ok, stand)
	}
}

// TestAllShortGames holds promise 2 for all texts of few letters.
func TestAllShortGames(t *testing.T) {
	for _, text := range everyText("ab", 13) {
		checkGame(t, text)
	}
	for _, text := range everyText("abc", 6) {
		checkGame(t, text)
	}
	r := rand.New(rand.NewSource(1))
	for range 3000 {
		for _, to := range []int{4, 7} {
			game := randomGame(r, to, "ab"[r.Intn(2):][:1])
			for _, text := range []string{game, game[:len(game)-1], game + "a", game + "b", game + game, game + "c"} {
				checkGame(t, text)
			}
		}
	}
}

func TestGameStands(t *testing.T) {
	for text, want := range map[string]string{
		"": "0:0", "a": "15:0", "b": "0:15", "abab": "30:30", "aaabb": "40:30", "bbbaa": "30:40", "aaa": "40:0", "bbb": "0:40", "aaabbb": "=",
		"aaabbba": "A", "aaabbbb": "B", "aaabbbab": "=", "aaabbbaa": "a", "aaabbbbb": "b", "aaaa": "a", "bbbb": "b", "abaaa": "a", "aabbaa": "a",
		"aabbb": "30:40", "aabbbb": "b", deuces(150): "=", deuces(149) + "a": "A", deuces(149) + "b": "B", deuces(149) + "aa": "a", deuces(149) + "bb": "b",
	} {
		if got, ok := impl.GameStands(text); got != want || !ok {
			t.Errorf("GameStands(%q) = %q %v, want %q", text, got, ok, want)
		}
		if !impl.IsTennisGame(text) {
			t.Errorf("IsTennisGame(%q) is false", text)
		}
	}
	for _, text := range []string{"aaaaa", "aaaab", "bbbba", "abaaab", "aaabbbaab", "aaabbbbba", deuces(148) + "aab", deuces(150) + "a", deuces(150) + "aa", deuces(151)} {
		if got, ok := impl.GameStands(text); got != "" || ok {
			t.Errorf("GameStands(%q) = %q %v", text, got, ok)
		}
		if impl.IsTennisGame(text) {
			t.Errorf("IsTennisGame(%q)", text)
		}
	}
}

func TestTieStands(t *testing.T) {
	for text, want := range map[string]string{
		"": "0:0", "a": "1:0", "aaaaaa": "6:0", "aaaaaaa": "7:0!", "bbbbbbb": "0:7!", deuces(5) + "aa": "7:5!", deuces(6): "6:6", deuces(6) + "a": "7:6",
		deuces(6) + "aa": "8:6!", deuces(6) + "bb": "6:8!", deuces(7): "7:7", deuces(10): "10:10", deuces(150): "150:150", deuces(149) + "aa": "151:149!", deuces(149) + "b": "149:150",
	} {
		if got, ok := impl.TieStands(text); got != want || !ok {
			t.Errorf("TieStands(%q) = %q %v, want %q", text, got, ok, want)
		}
	}
	for _, text := range []string{"aaaaaaaa", "aaaaaaab", deuces(5) + "aab", deuces(6) + "bbb", deuces(148) + "aab", deuces(150) + "a", deuces(150) + "aa", deuces(151)} {
		if got, ok := impl.TieStands(text); got != "" || ok {
			t.Errorf("TieStands(%q) = %q %v", text, got, ok)
		}
	}
}

// breaksOf counts the breaks of a set whose games are told.
func breaksOf(games string) (a, b int) {
	for i, winner := range games[:min(len(games), 12)] {
		if i%2 == 0 && winner == 'b' {
			b++
		}
		if i%2 == 1 && winner == 'a' {
			a++
		}
	}
	return a, b
}

// pointsNeeded lets a side win point by point until it has won the set: -1 if the other one has.
func pointsNeeded(k known, side string) int {
	for many := 0; ; {
		a, b := lettersOf(k.games)
		switch setEnd(a, b) {
		case side:
			return many
		case otherOf(side):
			return -1
		}
		many++
		k.next += side
		if winner := endOf(gameTarget(k.games), k.next); winner != "" {
			k.games, k.next = k.games+winner, ""
		}
	}
}

func checkSet(t *testing.T, k known) {
	t.Helper()
	a, b := lettersOf(k.games)
	winner, stand := setEnd(a, b), ""
	switch {
	case winner == "" && gameTarget(k.games) == 7:
		stand = tieStandOf(k.next)
	case winner == "":
		stand = gameStandOf(k.next)
	}
	if !impl.IsSet(k.points) {
		t.Errorf("IsSet(%q) is false", k.points)
	}
	if got, ok := impl.GamesOf(k.points); got != k.games || !ok {
		t.Errorf("GamesOf(%q) = %q %v, want %q", k.points, got, ok, k.games)
	}
	if x, y, s, ok := impl.SetStands(k.points); x != a || y != b || s != stand || !ok {
		t.Errorf("SetStands(%q) = %d %d %q %v, want %d %d %q", k.points, x, y, s, ok, a, b, stand)
	}
	if winner == "" {
		winner = "-"
	}
	if got, ok := impl.SetWinner(k.points); got != winner || !ok {
		t.Errorf("SetWinner(%q) = %q %v, want %q", k.points, got, ok, winner)
	}
	wantA, wantB := breaksOf(k.games)
	if x, y, ok := impl.BreaksIn(k.points); x != wantA || y != wantB || !ok {
		t.Errorf("BreaksIn(%q) = %d %d %v, want %d %d", k.points, x, y, ok, wantA, wantB)
	}
	wantA, wantB = lettersOf(k.points)
	if x, y, ok := impl.PointsOfSet(k.points); x != wantA || y != wantB || !ok {
		t.Errorf("PointsOfSet(%q) = %d %d %v", k.points, x, y, ok)
	}
	for _, side := range []string{"a", "b"} {
		want := pointsNeeded(k, side)
		got, ok := impl.FewestToSet(k.points, side)
		if ok != (want >= 0) || got != max(want, 0) {
			t.Errorf("FewestToSet(%q, %s) = %d %v, want %d", k.points, side, got, ok, want)
		}
	}
}

// checkNoSet holds that a text fails wherever points of a set are required, with zero results.
func checkNoSet(t *testing.T, text string) {
	t.Helper()
	if impl.IsSet(text) {
		t.Errorf("IsSet(%.400q)", text)
	}
	if got, ok := impl.GamesOf(text); got != "" || ok {
		t.Errorf("GamesOf(%.400q) = %q %v", text, got, ok)
	}
	if x, y, s, ok := impl.SetStands(text); x != 0 || y != 0 || s != "" || ok {
		t.Errorf("SetStands(%.400q) = %d %d %q %v", text, x, y, s, ok)
	}
	if got, ok := impl.SetWinner(text); got != "" || ok {
		t.Errorf("SetWinner(%.400q) = %q %v", text, got, ok)
	}
	if x, y, ok := impl.BreaksIn(text); x != 0 || y != 0 || ok {
		t.Errorf("BreaksIn(%.400q) = %d %d %v", text, x, y, ok)
	}
	if x, y, ok := impl.PointsOfSet(text); x != 0 || y != 0 || ok {
		t.Errorf("PointsOfSet(%.400q) = %d %d %v", text, x, y, ok)
	}
	for _, side := range []string{"a", "b", "", "c"} {
		if got, ok := impl.FewestToSet(text, side); got != 0 || ok {
			t.Errorf("FewestToSet(%.400q, %q) = %d %v", text, side, got, ok)
		}
	}
	for wins := 1; wins <= 3; wins++ {
		if got, ok := impl.MatchSets([]string{text}, wins); got != "" || ok {
			t.Errorf("MatchSets(%.400q, %d) = %q %v", text, wins, got, ok)
		}
	}
}

func checkAsRead(t *testing.T, text string) {
	t.Helper()
	if k, ok := readSet(text); ok {
		checkSet(t, k)
	} else {
		checkNoSet(t, text)
	}
}

func TestAllShortSets(t *testing.T) {
	for _, text := range everyText("ab", 12) {
		checkAsRead(t, text)
	}
	for _, text := range everyText("abc", 6) {
		checkAsRead(t, text)
	}
}

// TestRandomSets holds promise 2 for sets that are put together from games.
func TestRandomSets(t *testing.T) {
	r := rand.New(rand.NewSource(2))
	ended, ties := 0, 0
	for range 6000 {
		k := randomSet(r)
		checkSet(t, k)
		if k.ended() {
			ended++
			checkNoSet(t, k.points+"a")
			checkNoSet(t, k.points+"b")
			checkNoSet(t, k.points+k.points)
		}
		if len(k.games) >= 12 {
			ties++
		}
		checkAsRead(t, k.points+"a")
		checkNoSet(t, k.points+"c")
		cut := r.Intn(len(k.points) + 1)
		checkAsRead(t, k.points[:cut])
		checkAsRead(t, k.points[cut:])
		checkNoSet(t, k.points[:cut]+" "+k.points[cut:])
	}
	if ended < 500 || ties < 100 {
		t.Errorf("only %d of the sets are ended, and %d have 12 games", ended, ties)
	}
}

func TestSetOfTheExample(t *testing.T) {
	const text = "aaaabbbbab"
	if a, b, s, ok := impl.SetStands(text); a != 1 || b != 1 || s != "15:15" || !ok {
		t.Error("SetStands", a, b, s, ok)
	}
	if got, ok := impl.GamesOf(text); got != "ab" || !ok {
		t.Error("GamesOf", got, ok)
	}
	if a, b, ok := impl.BreaksIn(text); a != 0 || b != 0 || !ok {
		t.Error("BreaksIn", a, b, ok)
	}
	if got, ok := impl.FewestToSet(text, "a"); got != 23-4 || !ok {
		t.Error("FewestToSet", got, ok)
	}
	for _, side := range []string{"a", "b"} {
		if got, ok := impl.FewestToSet("", side); got != 24 || !ok {
			t.Error("FewestToSet of no points", got, ok)
		}
	}
	if a, b, s, ok := impl.SetStands(""); a != 0 || b != 0 || s != "0:0" || !ok {
		t.Error("SetStands of no points", a, b, s, ok)
	}
	if got, ok := impl.SetWinner(""); got != "-" || !ok || !impl.IsSet("") {
		t.Error("SetWinner of no points", got, ok)
	}
}

// won returns the points of games in which each loser gets none.
func won(games string) string {
	text := ""
	for i := range games {
		text += strings.Repeat(games[i:i+1], gameTarget(games[:i]))
	}
	return text
}

func TestTieBreaksOfSets(t *testing.T) {
	even := won("abababababab")
	cases := []struct {
		tie, stand string
		a, b       int
		needA      int
	}{
		{"", "0:0", 6, 6, 7}, {"aaaa", "4:0", 6, 6, 3}, {"bbbb", "0:4", 6, 6, 7}, {"aaaaaaa", "", 7, 6, 0}, {"bbbbbbb", "", 6, 7, -1}, {"bbbbbb", "0:6", 6, 6, 8},
		{deuces(6), "6:6", 6, 6, 2}, {deuces(6) + "b", "6:7", 6, 6, 3}, {deuces(6) + "aa", "", 7, 6, 0}, {deuces(6) + "bb", "", 6, 7, -1},
		{deuces(126), "126:126", 6, 6, 2}, {deuces(125) + "aa", "", 7, 6, 0}, {deuces(125) + "bb", "", 6, 7, -1}, {deuces(125) + "b", "125:126", 6, 6, 3},
	}
	for _, c := range cases {
		text := even + c.tie
		if a, b, s, ok := impl.SetStands(text); a != c.a || b != c.b || s != c.stand || !ok {
			t.Errorf("SetStands with the tie break %q = %d %d %q %v", c.tie, a, b, s, ok)
		}
		if got, ok := impl.FewestToSet(text, "a"); got != max(c.needA, 0) || ok != (c.needA >= 0) {
			t.Errorf("FewestToSet with the tie break %q = %d %v", c.tie, got, ok)
		}
		if a, b, ok := impl.BreaksIn(text); a != 0 || b != 0 || !ok {
			t.Errorf("BreaksIn with the tie break %q = %d %d %v", c.tie, a, b, ok)
		}
		checkAsRead(t, text)
		checkAsRead(t, text+"a")
		checkAsRead(t, text+"b")
	}
	checkNoSet(t, even+deuces(126)+"a")
	checkNoSet(t, even+deuces(126)+"aa")
	checkNoSet(t, even+"aaaaaaaa")
}

func TestBreaksIn(t *testing.T) {
	for games, want := range map[string][2]int{
		"": {0, 0}, "a": {0, 0}, "b": {0, 1}, "aa": {1, 0}, "ab": {0, 0}, "ba": {1, 1}, "aaaaaa": {3, 0}, "bbbbbb": {0, 3},
		"abababababab": {0, 0}, "abababababab" + "a": {0, 0}, "abababababab" + "b": {0, 0},
		"babababababa": {6, 6}, "babababababa" + "a": {6, 6}, "babababababa" + "b": {6, 6},
	} {
		if a, b, ok := impl.BreaksIn(won(games)); a != want[0] || b != want[1] || !ok {
			t.Errorf("BreaksIn of the games %q = %d %d %v", games, a, b, ok)
		}
	}
}

func TestSetsAtMaxRally(t *testing.T) {
	for _, text := range []string{
		deuces(150), deuces(149) + "aa", deuces(149) + "bb", deuces(147) + "aa" + "aaaa", "aaaa" + deuces(148), deuces(137) + "aa" + won("aaaaa") + "aaaa",
		deuces(139) + "aa" + won("aaaaa"), deuces(138) + "bb" + "bb" + won("bbbbb"),
	} {
		checkAsRead(t, text)
		checkAsRead(t, text+"a")
		checkAsRead(t, text+"b")
		checkAsRead(t, text[1:])
	}
	text := deuces(139) + "aa" + won("aaaaa")
	if got, ok := impl.SetWinner(text); len(text) != 300 || got != "a" || !ok {
		t.Error("a set of", len(text), "points is won by", got, ok)
	}
	if got, ok := impl.FewestToSet(deuces(150), "b"); got != 2+20 || !ok {
		t.Error("FewestToSet behind MaxRally points", got, ok)
	}
	checkNoSet(t, deuces(150)+"a")
	checkNoSet(t, won("aaaaaa")+"a")
	checkNoSet(t, won("bbbbbb")+"a")
	checkNoSet(t, won("aaaaabbbbbaab"))
}

func TestTextsThatAreNoPoints(t *testing.T) {
	for _, text := range noPoints() {
		checkNoSet(t, text)
		if impl.IsTennisGame(text) {
			t.Errorf("IsTennisGame(%.400q)", text)
		}
		if got, ok := impl.GameStands(text); got != "" || ok {
			t.Errorf("GameStands(%.400q) = %q %v", text, got, ok)
		}
		if got, ok := impl.TieStands(text); got != "" || ok {
			t.Errorf("TieStands(%.400q) = %q %v", text, got, ok)
		}
		if impl.IsGameOrder(text) {
			t.Errorf("IsGameOrder(%.400q)", text)
		}
		if got, ok := impl.SetOfGames(text); got != "" || ok {
			t.Errorf("SetOfGames(%.400q) = %q %v", text, got, ok)
		}
	}
}

func TestSidesThatAreNone(t *testing.T) {
	for _, side := range append(noPoints(), "", "aa", "ab", "ba", "bb") {
		for _, text := range []string{"", "aaaabbbbab", won("aaaaaa"), won("bbbbbb")} {
			if got, ok := impl.FewestToSet(text, side); got != 0 || ok {
				t.Errorf("FewestToSet(%q, %.400q) = %d %v", text, side, got, ok)
			}
		}
	}
	for _, c := range []struct {
		games, side string
		fine        bool
	}{{"aaaaaa", "a", true}, {"aaaaaa", "b", false}, {"bbbbbb", "b", true}, {"bbbbbb", "a", false}, {"abababababaa", "a", true}, {"abababababaa", "b", false}} {
		if got, ok := impl.FewestToSet(won(c.games), c.side); got != 0 || ok != c.fine {
			t.Errorf("FewestToSet(%s, %s) = %d %v", c.games, c.side, got, ok)
		}
	}
}

// everyOrder returns all game orders, in the order of texts.
func everyOrder() []string {
	var all []string
	var grow func(order string)
	grow = func(order string) {
		all = append(all, order)
		if a, b := lettersOf(order); setEnd(a, b) == "" {
			grow(order + "a")
			grow(order + "b")
		}
	}
	grow("")
	return all
}

func TestIsGameOrder(t *testing.T) {
	orders := everyOrder()
	for _, order := range orders {
		if !impl.IsGameOrder(order) {
			t.Errorf("IsGameOrder(%q) is false", order)
		}
	}
	for _, text := range everyText("ab", 14) {
		_, found := slices.BinarySearch(orders, text)
		if got := impl.IsGameOrder(text); got != found {
			t.Errorf("IsGameOrder(%q) = %v", text, got)
		}
	}
	for _, text := range []string{"aaaaaaa", "aaaaaab", "bbbbbba", "aaaaabbbbbaaa", "aaaaabbbbbaab", "abababababab" + "ab", "abababababab" + "aa", strings.Repeat("ab", 1<<20), strings.Repeat("a", 300)} {
		if impl.IsGameOrder(text) {
			t.Errorf("IsGameOrder(%.400q)", text)
		}
		if got, ok := impl.SetOfGames(text); got != "" || ok {
			t.Errorf("SetOfGames(%.400q) = %q %v", text, got, ok)
		}
	}
}

func TestGameOrders(t *testing.T) {
	many, first := map[[2]int]int{}, map[[2]int]string{}
	for _, order := range everyOrder() {
		a, b := lettersOf(order)
		if many[[2]int{a, b}]++; many[[2]int{a, b}] == 1 {
			first[[2]int{a, b}] = order
		}
	}
	for a := -2; a <= 9; a++ {
		for b := -2; b <= 9; b++ {
			key, fine := [2]int{a, b}, a >= 0 && b >= 0 && a <= 7 && b <= 7
			if got, ok := impl.CountGameOrders(a, b); got != many[key] || ok != fine {
				t.Errorf("CountGameOrders(%d, %d) = %d %v, want %d", a, b, got, ok, many[key])
			}
			if got, ok := impl.FirstGameOrder(a, b); got != first[key] || ok != (many[key] > 0) {
				t.Errorf("FirstGameOrder(%d, %d) = %q %v, want %q", a, b, got, ok, first[key])
			}
		}
	}
	for key, want := range map[[2]int]int{{0, 0}: 1, {6, 1}: 6, {1, 6}: 6, {6, 6}: 504, {7, 6}: 504, {7, 5}: 252, {6, 5}: 252, {7, 7}: 0, {7, 4}: 0, {6, 0}: 1} {
		if got, ok := impl.CountGameOrders(key[0], key[1]); got != want || !ok {
			t.Errorf("CountGameOrders(%v) = %d %v, want %d", key, got, ok, want)
		}
	}
	for key, want := range map[[2]int]string{{0, 0}: "", {6, 0}: "aaaaaa", {0, 6}: "bbbbbb", {6, 1}: "aaaaaba", {6, 4}: "aaaaabbbba", {4, 6}: "aaaabbbbbb", {7, 6}: "aaaaabbbbbaba", {5, 5}: "aaaaabbbbb"} {
		if got, ok := impl.FirstGameOrder(key[0], key[1]); got != want || !ok {
			t.Errorf("FirstGameOrder(%v) = %q %v, want %q", key, got, ok, want)
		}
	}
}

func TestSetOfGames(t *testing.T) {
	for _, order := range everyOrder() {
		got, ok := impl.SetOfGames(order)
		if got != won(order) || !ok {
			t.Errorf("SetOfGames(%q) = %q %v", order, got, ok)
		}
		if games, fine := impl.GamesOf(got); games != order || !fine {
			t.Errorf("GamesOf(SetOfGames(%q)) = %q %v", order, games, fine)
		}
	}
	if got, ok := impl.SetOfGames(""); got != "" || !ok {
		t.Error("SetOfGames of no games", got, ok)
	}
	if got, ok := impl.SetOfGames("abababababab" + "b"); got != strings.Repeat("aaaabbbb", 6)+"bbbbbbb" || !ok {
		t.Error("SetOfGames with a tie break", got, ok)
	}
}

func TestSetScores(t *testing.T) {
	want := [][]int{{6, 0}, {6, 1}, {6, 2}, {6, 3}, {6, 4}, {7, 5}, {7, 6}}
	got := impl.SetScores()
	if !slices.EqualFunc(got, want, slices.Equal[[]int]) {
		t.Error("SetScores", got)
	}
	reached := map[[2]int]bool{}
	for _, order := range everyOrder() {
		if a, b := lettersOf(order); setEnd(a, b) == "a" {
			reached[[2]int{a, b}] = true
		}
	}
	numbers := append([]int{5, 6, 7, 8, 9, 13}, wildInts...)
	for _, a := range numbers {
		for _, b := range numbers {
			if got := impl.IsSetScore(a, b); got != reached[[2]int{a, b}] {
				t.Errorf("IsSetScore(%d, %d) = %v", a, b, got)
			}
		}
	}
	for _, pair := range [][2]int{{6, 5}, {6, 6}, {7, 4}, {7, 7}, {8, 6}, {0, 6}, {5, 7}, {6, -1}, {7, -5}, {0, 0}} {
		if impl.IsSetScore(pair[0], pair[1]) {
			t.Errorf("IsSetScore%v", pair)
		}
	}
}

// gameBounds looks at all plays of a race up to a length: with how few points it is won, and by how many at least and at most.
func gameBounds(to, longest int) (points, least, most int) {
	points, least, most = math.MaxInt, math.MaxInt, 0
	var grow func(a, b int)
	grow = func(a, b int) {
		if raceEnd(to, a, b) == "a" {
			points, least, most = min(points, a+b), min(least, a-b), max(most, a-b)
		}
		if raceEnd(to, a, b) == "" && a+b < longest {
			grow(a+1, b)
			grow(a, b+1)
		}
	}
	grow(0, 0)
	return points, least, most
}

// leastOf looks at all full game orders with some games, and takes the least of each of their games.
func leastOf(a, b int) (points, margin int, found bool) {
	gamePoints, gameLeast, gameMost := gameBounds(4, 10)
	tiePoints, tieLeast, _ := gameBounds(7, 16)
	points, margin = math.MaxInt, math.MaxInt
	for _, order := range everyOrder() {
		x, y := lettersOf(order)
		if x != a || y != b || setEnd(x, y) != "a" {
			continue
		}
		sum, more := 0, 0
		for i, winner := range order {
			switch {
			case gameTarget(order[:i]) == 7:
				sum, more = sum+tiePoints, more+tieLeast
			case winner == 'a':
				sum, more = sum+gamePoints, more+gameLeast
			default:
				sum, more = sum+gamePoints, more-gameMost
			}
		}
		points, margin, found = min(points, sum), min(margin, more), true
	}
	return points, margin, found
}

func TestLeastPointsAndMargins(t *testing.T) {
	for a := -1; a <= 8; a++ {
		for b := -1; b <= 8; b++ {
			points, margin, fine := leastOf(a, b)
			if !fine {
				points, margin = 0, 0
			}
			if got, ok := impl.LeastPointsFor(a, b); got != points || ok != fine {
				t.Errorf("LeastPointsFor(%d, %d) = %d %v, want %d %v", a, b, got, ok, points, fine)
			}
			if got, ok := impl.LeastMargin(a, b); got != margin || ok != fine {
				t.Errorf("LeastMargin(%d, %d) = %d %v, want %d %v", a, b, got, ok, margin, fine)
			}
		}
	}
	for key, want := range map[[2]int][2]int{{6, 0}: {24, 12}, {6, 3}: {36, 0}, {6, 4}: {40, -4}, {7, 5}: {48, -6}, {7, 6}: {55, -10}} {
		points, ok := impl.LeastPointsFor(key[0], key[1])
		margin, fine := impl.LeastMargin(key[0], key[1])
		if points != want[0] || margin != want[1] || !ok || !fine {
			t.Errorf("%v: %d %v, %d %v", key, points, ok, margin, fine)
		}
	}
}

// matchOf tells who wins a match of at most so many sets, or races, whose winners are told.
func matchOf(winners string, wins, most, mostWins int) (string, bool) {
	if len(winners) > most || wins < 1 || wins > mostWins || strings.Contains(winners, "-") || strings.Contains(winners, "x") {
		return "", false
	}
	for i := range len(winners) + 1 {
		a, b := lettersOf(winners[:i])
		if max(a, b) == wins && i < len(winners) {
			return "", false
		}
	}
	switch a, b := lettersOf(winners); wins {
	case a:
		return "a", true
	case b:
		return "b", true
	}
	return "-", true
}

func TestMatchSets(t *testing.T) {
	sets := map[rune]string{'a': won("abababababab" + "a"), 'b': won("abbbbbb"), '-': won("aaaaa") + "aaa", 'x': won("aaaaaa") + "a"}
	numbers := append([]int{5, 6}, wildInts...)
	for _, winners := range everyText("ab-x", 6) {
		var list []string
		for _, winner := range winners {
			list = append(list, sets[winner])
		}
		kept := slices.Clone(list)
		for _, wins := range []int{0, 1, 2, 3, 4} {
			want, fine := matchOf(winners, wins, 5, 3)
			if got, ok := impl.MatchSets(list, wins); got != want || ok != fine {
				t.Errorf("MatchSets(%s, %d) = %q %v, want %q %v", winners, wins, got, ok, want, fine)
			}
		}
		if !slices.Equal(list, kept) {
			t.Fatal("MatchSets changed its sets", winners)
		}
	}
	for _, wins := range numbers {
		fine := wins >= 1 && wins <= 3
		for _, list := range [][]string{nil, {}} {
			if got, ok := impl.MatchSets(list, wins); ok != fine || fine && got != "-" || !fine && got != "" {
				t.Errorf("MatchSets of no sets, %d = %q %v", wins, got, ok)
			}
		}
	}
	for _, list := range [][]string{{""}, {sets['a'], ""}, slices.Repeat([]string{sets['a']}, 6), slices.Repeat([]string{""}, 100000), {sets['a'], strings.Repeat("a", 1<<20)}} {
		if got, ok := impl.MatchSets(list, 3); got != "" || ok {
			t.Errorf("MatchSets of %d sets = %q %v", len(list), got, ok)
		}
	}
}

// TestWildGames holds promise 11 for numbers of games: those out of range fail, with zero results.
func TestWildGames(t *testing.T) {
	for _, a := range wildInts {
		for _, b := range wildInts {
			if a >= 0 && a <= 7 && b >= 0 && b <= 7 {
				continue
			}
			if got, ok := impl.CountGameOrders(a, b); got != 0 || ok {
				t.Errorf("CountGameOrders(%d, %d) = %d %v", a, b, got, ok)
			}
			if got, ok := impl.FirstGameOrder(a, b); got != "" || ok {
				t.Errorf("FirstGameOrder(%d, %d) = %q %v", a, b, got, ok)
			}
			if got, ok := impl.LeastPointsFor(a, b); got != 0 || ok {
				t.Errorf("LeastPointsFor(%d, %d) = %d %v", a, b, got, ok)
			}
			if got, ok := impl.LeastMargin(a, b); got != 0 || ok {
				t.Errorf("LeastMargin(%d, %d) = %d %v", a, b, got, ok)
			}
		}
	}
}

func TestMatchSetsKeepsTheRoomBehind(t *testing.T) {
	whole := []string{won("aaaaaa"), won("bbbbbb"), won("aaaaaa"), "x", ""}
	kept := slices.Clone(whole)
	for many := range len(whole) + 1 {
		for wins := range 5 {
			impl.MatchSets(whole[:many], wins)
		}
	}
	if got, ok := impl.MatchSets(whole[:3], 2); got != "a" || !ok {
		t.Error("MatchSets with room behind", got, ok)
	}
	if !slices.Equal(whole, kept) {
		t.Error("the sets became", whole)
	}
}

func TestSetScoresAreNew(t *testing.T) {
	for range 2 {
		scores := impl.SetScores()
		if len(scores) != 7 {
			t.Fatal("SetScores", scores)
		}
		for i, score := range scores {
			want := [][]int{{6, 0}, {6, 1}, {6, 2}, {6, 3}, {6, 4}, {7, 5}, {7, 6}}[i]
			if !slices.Equal(score, want) {
				t.Fatalf("the score %d is %v, behind changes of others", i, score)
			}
			whole := score[:cap(score)]
			for k := range whole {
				whole[k] = -1
			}
		}
		clear(scores[:cap(scores)])
	}
}
