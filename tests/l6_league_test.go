package tests

import (
	"math"
	"math/rand"
	"regexp"
	"slices"
	"strconv"
	"strings"
	"testing"

	"loop.example/g01368/impl"
)

// leagueExample is the league of the document's example.
const leagueExample = "3w3|0-1=2:1,1-2=0:0,2-0=1:0,0-2=3:1"

func league(t *testing.T, text string) impl.League {
	t.Helper()
	l, ok := impl.ParseLeague(text)
	if !ok {
		t.Fatalf("ParseLeague(%q) fails", text)
	}
	return l
}

// leagueName tells a league in messages, also one that is none.
func leagueName(l impl.League) string {
	text := strconv.Itoa(l.Teams) + "w" + strconv.Itoa(l.Win) + "|"
	for _, r := range l.Results[:min(len(l.Results), 57)] {
		text += strconv.Itoa(r.Home) + "-" + strconv.Itoa(r.Away) + "=" + strconv.Itoa(r.HomeGoals) + ":" + strconv.Itoa(r.AwayGoals) + ","
	}
	return strings.TrimSuffix(text, ",")
}

func sameLeague(l, other impl.League) bool {
	return l.Teams == other.Teams && l.Win == other.Win && slices.Equal(l.Results, other.Results)
}

// pairings returns Home and Away of all games of so many teams, ordered by these.
func pairings(teams int) [][]int {
	var all [][]int
	for pair := range teams * teams {
		if home, away := pair/teams, pair%teams; home != away {
			all = append(all, []int{home, away})
		}
	}
	return all
}

// bookEntry is what a team has come to.
type bookEntry struct {
	points, goals, against int
	won, drawn, lost       int
	run, longest           int
}

// bookOf enters the results of a league in turn, each for both teams.
func bookOf(l impl.League) []bookEntry {
	book := make([]bookEntry, l.Teams)
	enter := func(team, goals, against int) {
		e := &book[team]
		e.goals += goals
		e.against += against
		switch lead := goals - against; {
		case lead > 0:
			e.points += l.Win
			e.won++
			e.run++
		case lead == 0:
			e.points++
			e.drawn++
			e.run++
		default:
			e.lost++
			e.run = 0
		}
		e.longest = max(e.longest, e.run)
	}
	for _, r := range l.Results {
		enter(r.Home, r.HomeGoals, r.AwayGoals)
		enter(r.Away, r.AwayGoals, r.HomeGoals)
	}
	return book
}

func pointsIn(book []bookEntry) []int {
	var points []int
	for _, e := range book {
		points = append(points, e.points)
	}
	return points
}

// tableOf places each team behind all those with a greater weight, which no two teams share.
func tableOf(book []bookEntry) []int {
	weight := func(team int) int {
		e := book[team]
		return ((e.points*1000+e.goals-e.against+500)*1000+e.goals)*10 + 9 - team
	}
	table := make([]int, len(book))
	for team := range book {
		place := 0
		for other := range book {
			if weight(other) > weight(team) {
				place++
			}
		}
		table[place] = team
	}
	return table
}

func leftOf(l impl.League) [][]int {
	return slices.DeleteFunc(pairings(l.Teams), func(pair []int) bool {
		for _, r := range l.Results {
			if r.Home == pair[0] && r.Away == pair[1] {
				return true
			}
		}
		return false
	})
}

// firstsOf returns for each team in how many ways of the games that are left it has the most points: it makes all of these ways.
func firstsOf(l impl.League) []int {
	left := leftOf(l)
	now := pointsIn(bookOf(l))
	firsts := make([]int, l.Teams)
	ways := int(math.Round(math.Pow(3, float64(len(left)))))
	for way := range ways {
		points := slices.Clone(now)
		for _, pair := range left {
			switch way % 3 {
			case 0:
				points[pair[0]] += l.Win
			case 1:
				points[pair[1]] += l.Win
			case 2:
				points[pair[0]]++
				points[pair[1]]++
			}
			way /= 3
		}
		for team := range firsts {
			if points[team] == slices.Max(points) {
				firsts[team]++
			}
		}
	}
	return firsts
}

// ringOf returns the first of all rings, those being turned until the least team is first.
func ringOf(l impl.League) []int {
	var beaten [8][8]bool
	for _, r := range l.Results {
		if r.HomeGoals > r.AwayGoals {
			beaten[r.Home][r.Away] = true
		}
		if r.HomeGoals < r.AwayGoals {
			beaten[r.Away][r.Home] = true
		}
	}
	var first []int
	for _, x := range pairings(l.Teams) {
		for z := range l.Teams {
			ring := []int{x[0], x[1], z}
			if beaten[x[0]][x[1]] && beaten[x[1]][z] && beaten[z][x[0]] && slices.Min(ring) == x[0] && (first == nil || slices.Compare(ring, first) < 0) {
				first = ring
			}
		}
	}
	return first
}

// directOf returns the points that a team has got against another one, looking at one pair's games alone.
func directOf(l impl.League, team, other int) int {
	points := 0
	for _, r := range l.Results {
		switch lead := r.HomeGoals - r.AwayGoals; {
		case r.Home == team && r.Away == other && lead > 0, r.Home == other && r.Away == team && lead < 0:
			points += l.Win
		case r.Home == team && r.Away == other && lead == 0, r.Home == other && r.Away == team && lead == 0:
			points++
		}
	}
	return points
}

// checkLeague holds promise 6 for a league.
func checkLeague(t *testing.T, l impl.League) {
	t.Helper()
	if !impl.IsLeague(l) {
		t.Errorf("IsLeague(%s) = false", leagueName(l))
	}
	book := bookOf(l)
	if got, ok := impl.LeaguePoints(l); !slices.Equal(got, pointsIn(book)) || !ok {
		t.Errorf("LeaguePoints(%s) = %v %v, want %v", leagueName(l), got, ok, pointsIn(book))
	}
	var goals [][]int
	for _, e := range book {
		goals = append(goals, []int{e.goals, e.against})
	}
	if got, ok := impl.GoalsOfTeams(l); !slices.EqualFunc(got, goals, slices.Equal[[]int]) || !ok {
		t.Errorf("GoalsOfTeams(%s) = %v %v, want %v", leagueName(l), got, ok, goals)
	}
	if got, ok := impl.LeagueTable(l); !slices.Equal(got, tableOf(book)) || !ok {
		t.Errorf("LeagueTable(%s) = %v %v, want %v", leagueName(l), got, ok, tableOf(book))
	}
	if got, ok := impl.LeftResults(l); !slices.EqualFunc(got, leftOf(l), slices.Equal[[]int]) || !ok {
		t.Errorf("LeftResults(%s) = %v %v, want %v", leagueName(l), got, ok, leftOf(l))
	}
	ring := ringOf(l)
	if got, ok := impl.FirstRing(l); !slices.Equal(got, ring) || ok != (ring != nil) {
		t.Errorf("FirstRing(%s) = %v %v, want %v", leagueName(l), got, ok, ring)
	}
	if got, ok := impl.LeagueText(l); got != leagueName(l) || !ok {
		t.Errorf("LeagueText(%s) = %q %v", leagueName(l), got, ok)
	}
	if got, ok := impl.ParseLeague(leagueName(l)); !sameLeague(got, l) || !ok {
		t.Errorf("ParseLeague(%q) = %v %v", leagueName(l), got, ok)
	}
	checkTeams(t, l, book)
	checkFirsts(t, l)
	checkTurned(t, l)
}

// checkTeams holds what is told of each team, and of each two of them.
func checkTeams(t *testing.T, l impl.League, book []bookEntry) {
	t.Helper()
	left := leftOf(l)
	for team, e := range book {
		if won, drawn, lost, ok := impl.WonDrawnLost(l, team); won != e.won || drawn != e.drawn || lost != e.lost || !ok {
			t.Errorf("WonDrawnLost(%s, %d) = %d %d %d %v, want %d %d %d", leagueName(l), team, won, drawn, lost, ok, e.won, e.drawn, e.lost)
		}
		if got, ok := impl.RankOfTeam(l, team); got < 1 || got > l.Teams || tableOf(book)[got-1] != team || !ok {
			t.Errorf("RankOfTeam(%s, %d) = %d %v", leagueName(l), team, got, ok)
		}
		if got, ok := impl.LongestUnbeaten(l, team); got != e.longest || !ok {
			t.Errorf("LongestUnbeaten(%s, %d) = %d %v, want %d", leagueName(l), team, got, ok, e.longest)
		}
		most := e.points
		for _, pair := range left {
			if slices.Contains(pair, team) {
				most += l.Win
			}
		}
		if got, ok := impl.MostPoints(l, team); got != most || !ok {
			t.Errorf("MostPoints(%s, %d) = %d %v, want %d", leagueName(l), team, got, ok, most)
		}
		for other := range book {
			points, others, fine := directOf(l, team, other), directOf(l, other, team), team != other
			if a, b, ok := impl.DirectPoints(l, team, other); a != points || b != others || ok != fine {
				t.Errorf("DirectPoints(%s, %d, %d) = %d %d %v, want %d %d", leagueName(l), team, other, a, b, ok, points, others)
			}
		}
	}
}

// checkFirsts holds in how many ways each team can be first, and that none is told if too many games are left.
func checkFirsts(t *testing.T, l impl.League) {
	t.Helper()
	firsts, fine := make([]int, l.Teams), len(leftOf(l)) <= 7
	if fine {
		firsts = firstsOf(l)
	}
	for team, want := range firsts {
		if got, ok := impl.CountFirsts(l, team); got != want || ok != fine {
			t.Errorf("CountFirsts(%s, %d) = %d %v, want %d", leagueName(l), team, got, ok, want)
		}
		if got, ok := impl.CanBeFirst(l, team); got != (want > 0) || ok != fine {
			t.Errorf("CanBeFirst(%s, %d) = %v %v", leagueName(l), team, got, ok)
		}
	}
}

// checkTurned holds that teams keep their goals when Home and Away are exchanged.
func checkTurned(t *testing.T, l impl.League) {
	t.Helper()
	turn, ok := impl.TurnResults(l)
	if !ok || turn.Teams != l.Teams || turn.Win != l.Win || len(turn.Results) != len(l.Results) {
		t.Errorf("TurnResults(%s) = %s %v", leagueName(l), leagueName(turn), ok)
		return
	}
	for i, r := range l.Results {
		if x := turn.Results[i]; x.Home != r.Away || x.Away != r.Home || x.HomeGoals != r.AwayGoals || x.AwayGoals != r.HomeGoals {
			t.Errorf("TurnResults(%s) = %s", leagueName(l), leagueName(turn))
		}
	}
	if back, ok := impl.TurnResults(turn); !sameLeague(back, l) || !ok {
		t.Errorf("TurnResults(%s) = %s %v", leagueName(turn), leagueName(back), ok)
	}
}

// checkNoLeague holds that every function fails for what is no league, with zero results.
func checkNoLeague(t *testing.T, l impl.League) {
	t.Helper()
	if impl.IsLeague(l) {
		t.Errorf("IsLeague(%s)", leagueName(l))
	}
	if got, ok := impl.LeaguePoints(l); len(got) != 0 || ok {
		t.Errorf("LeaguePoints(%s) = %v %v", leagueName(l), got, ok)
	}
	if got, ok := impl.GoalsOfTeams(l); len(got) != 0 || ok {
		t.Errorf("GoalsOfTeams(%s) = %v %v", leagueName(l), got, ok)
	}
	if got, ok := impl.LeagueTable(l); len(got) != 0 || ok {
		t.Errorf("LeagueTable(%s) = %v %v", leagueName(l), got, ok)
	}
	if got, ok := impl.LeftResults(l); len(got) != 0 || ok {
		t.Errorf("LeftResults(%s) = %v %v", leagueName(l), got, ok)
	}
	if got, ok := impl.FirstRing(l); len(got) != 0 || ok {
		t.Errorf("FirstRing(%s) = %v %v", leagueName(l), got, ok)
	}
	if got, ok := impl.LeagueText(l); got != "" || ok {
		t.Errorf("LeagueText(%s) = %q %v", leagueName(l), got, ok)
	}
	if got, ok := impl.TurnResults(l); !isZero(got) || ok {
		t.Errorf("TurnResults(%s) = %v %v", leagueName(l), got, ok)
	}
	for _, n := range []int{-1, 0, 1, l.Teams - 1, l.Teams, len(l.Results) - 1} {
		checkNoTeam(t, l, n)
		if got, ok := impl.DropResult(l, n); !isZero(got) || ok {
			t.Errorf("DropResult(%s, %d) = %v %v", leagueName(l), n, got, ok)
		}
		if got, ok := impl.AddResult(l, impl.Result{Home: n, Away: n + 1}); !isZero(got) || ok {
			t.Errorf("AddResult(%s, %d) = %v %v", leagueName(l), n, got, ok)
		}
	}
}

func isZero(l impl.League) bool { return sameLeague(l, impl.League{}) }

// checkNoTeam holds that every function of a team fails, with zero results.
func checkNoTeam(t *testing.T, l impl.League, team int) {
	t.Helper()
	if won, drawn, lost, ok := impl.WonDrawnLost(l, team); won != 0 || drawn != 0 || lost != 0 || ok {
		t.Errorf("WonDrawnLost(%s, %d) = %d %d %d %v", leagueName(l), team, won, drawn, lost, ok)
	}
	if got, ok := impl.RankOfTeam(l, team); got != 0 || ok {
		t.Errorf("RankOfTeam(%s, %d) = %d %v", leagueName(l), team, got, ok)
	}
	if got, ok := impl.MostPoints(l, team); got != 0 || ok {
		t.Errorf("MostPoints(%s, %d) = %d %v", leagueName(l), team, got, ok)
	}
	if got, ok := impl.CanBeFirst(l, team); got || ok {
		t.Errorf("CanBeFirst(%s, %d) = %v %v", leagueName(l), team, got, ok)
	}
	if got, ok := impl.CountFirsts(l, team); got != 0 || ok {
		t.Errorf("CountFirsts(%s, %d) = %d %v", leagueName(l), team, got, ok)
	}
	if got, ok := impl.LongestUnbeaten(l, team); got != 0 || ok {
		t.Errorf("LongestUnbeaten(%s, %d) = %d %v", leagueName(l), team, got, ok)
	}
	for _, other := range []int{0, 1, l.Teams - 1, team} {
		for _, two := range [][2]int{{team, other}, {other, team}} {
			if a, b, ok := impl.DirectPoints(l, two[0], two[1]); a != 0 || b != 0 || ok {
				t.Errorf("DirectPoints(%s, %d, %d) = %d %d %v", leagueName(l), two[0], two[1], a, b, ok)
			}
		}
	}
}

func TestLeagueOfTheExample(t *testing.T) {
	l := league(t, leagueExample)
	if got, ok := impl.LeaguePoints(l); !slices.Equal(got, []int{6, 1, 4}) || !ok {
		t.Error("LeaguePoints", got, ok)
	}
	if got, ok := impl.LeagueTable(l); !slices.Equal(got, []int{0, 2, 1}) || !ok {
		t.Error("LeagueTable", got, ok)
	}
	if got, ok := impl.GoalsOfTeams(l); !slices.EqualFunc(got, [][]int{{5, 3}, {1, 2}, {2, 3}}, slices.Equal[[]int]) || !ok {
		t.Error("GoalsOfTeams", got, ok)
	}
	if got, ok := impl.LeftResults(l); !slices.EqualFunc(got, [][]int{{1, 0}, {2, 1}}, slices.Equal[[]int]) || !ok {
		t.Error("LeftResults", got, ok)
	}
	if got, ok := impl.MostPoints(l, 1); got != 7 || !ok {
		t.Error("MostPoints", got, ok)
	}
	if got, ok := impl.CanBeFirst(l, 1); !got || !ok {
		t.Error("CanBeFirst", got, ok)
	}
	if got, ok := impl.CountFirsts(l, 1); got != 1 || !ok {
		t.Error("CountFirsts", got, ok)
	}
	if a, b, ok := impl.DirectPoints(l, 0, 2); a != 3 || b != 3 || !ok {
		t.Error("DirectPoints", a, b, ok)
	}
	if got, ok := impl.LongestUnbeaten(l, 0); got != 1 || !ok {
		t.Error("LongestUnbeaten", got, ok)
	}
	if got, ok := impl.FirstRing(l); len(got) != 0 || ok {
		t.Error("FirstRing", got, ok)
	}
	checkLeague(t, l)
}

// TestLeaguesOfTwoTeams plays all leagues of two teams with few goals, in each order of the games.
func TestLeaguesOfTwoTeams(t *testing.T) {
	var ones, others []impl.Result
	for _, home := range []int{0, 1, 2, 20} {
		for _, away := range []int{0, 1, 2, 20} {
			ones = append(ones, impl.Result{Home: 0, Away: 1, HomeGoals: home, AwayGoals: away})
			others = append(others, impl.Result{Home: 1, Away: 0, HomeGoals: home, AwayGoals: away})
		}
	}
	for _, win := range []int{2, 3} {
		checkLeague(t, impl.League{Teams: 2, Win: win})
		for _, x := range ones {
			checkLeague(t, impl.League{Teams: 2, Win: win, Results: []impl.Result{x}})
			for _, y := range others {
				checkLeague(t, impl.League{Teams: 2, Win: win, Results: []impl.Result{y}})
				checkLeague(t, impl.League{Teams: 2, Win: win, Results: []impl.Result{x, y}})
				checkLeague(t, impl.League{Teams: 2, Win: win, Results: []impl.Result{y, x}})
			}
		}
	}
}

// TestLeaguesOfThreeTeams plays all leagues of three teams in which each game is left, won, lost or drawn.
func TestLeaguesOfThreeTeams(t *testing.T) {
	for way := range 4 * 4 * 4 * 4 * 4 * 4 {
		var results []impl.Result
		for _, pair := range pairings(3) {
			if how := way % 4; how > 0 {
				goals := [][]int{{2, 0}, {0, 1}, {1, 1}}[how-1]
				results = append(results, impl.Result{Home: pair[0], Away: pair[1], HomeGoals: goals[0], AwayGoals: goals[1]})
			}
			way /= 4
		}
		checkLeague(t, impl.League{Teams: 3, Win: 2 + len(results)%2, Results: results})
	}
}

// randomLeague has so many games left, the others being played in any order.
func randomLeague(r *rand.Rand, teams, left, mostGoals int) impl.League {
	pairs := pairings(teams)
	r.Shuffle(len(pairs), func(i, j int) { pairs[i], pairs[j] = pairs[j], pairs[i] })
	l := impl.League{Teams: teams, Win: 2 + r.Intn(2)}
	for _, pair := range pairs[left:] {
		l.Results = append(l.Results, impl.Result{Home: pair[0], Away: pair[1], HomeGoals: r.Intn(mostGoals + 1), AwayGoals: r.Intn(mostGoals + 1)})
	}
	return l
}

func TestRandomLeagues(t *testing.T) {
	r := rand.New(rand.NewSource(6))
	for teams := 2; teams <= 8; teams++ {
		games := teams * (teams - 1)
		for round := range 40 {
			mostGoals := []int{1, 2, 4, 20}[round%4]
			checkLeague(t, randomLeague(r, teams, r.Intn(games+1), mostGoals))
			checkLeague(t, randomLeague(r, teams, min(games, r.Intn(9)), mostGoals))
			checkLeague(t, randomLeague(r, teams, 0, mostGoals))
		}
	}
}

// TestLeaguesAtTheirLimits holds leagues without results, and those that are over with just as many goals as there may be.
func TestLeaguesAtTheirLimits(t *testing.T) {
	for teams := 2; teams <= 8; teams++ {
		for _, win := range []int{2, 3} {
			checkLeague(t, impl.League{Teams: teams, Win: win})
			checkLeague(t, impl.League{Teams: teams, Win: win, Results: []impl.Result{}})
			for _, goals := range [][]int{{0, 0}, {20, 20}, {20, 0}, {0, 20}} {
				l := impl.League{Teams: teams, Win: win}
				for _, pair := range pairings(teams) {
					l.Results = append(l.Results, impl.Result{Home: pair[0], Away: pair[1], HomeGoals: goals[0], AwayGoals: goals[1]})
				}
				checkLeague(t, l)
			}
		}
	}
	var full impl.League
	for _, pair := range pairings(8) {
		full.Results = append(full.Results, impl.Result{Home: pair[0], Away: pair[1], HomeGoals: 20, AwayGoals: 20})
	}
	full.Teams, full.Win = 8, 3
	if len(full.Results) != impl.MaxResults {
		t.Fatal("a league of MaxTeams teams is over with", len(full.Results), "results")
	}
	if got, ok := impl.GoalsOfTeams(full); !slices.EqualFunc(got, slices.Repeat([][]int{{280, 280}}, 8), slices.Equal[[]int]) || !ok {
		t.Error("GoalsOfTeams of MaxLeagueGoals in each game", got, ok)
	}
	if got, ok := impl.LongestUnbeaten(full, 7); got != 14 || !ok {
		t.Error("LongestUnbeaten of a league without a loss", got, ok)
	}
	if got, ok := impl.LeftResults(full); len(got) != 0 || !ok {
		t.Error("LeftResults of a league that is over", got, ok)
	}
	full.Results = append(full.Results, impl.Result{Home: 0, Away: 1})
	checkNoLeague(t, full)
}

// TestNoResults holds what is told of a league without results.
func TestNoResults(t *testing.T) {
	l := league(t, "4w2|")
	if got, ok := impl.LeaguePoints(l); !slices.Equal(got, []int{0, 0, 0, 0}) || !ok {
		t.Error("LeaguePoints", got, ok)
	}
	if got, ok := impl.GoalsOfTeams(l); !slices.EqualFunc(got, slices.Repeat([][]int{{0, 0}}, 4), slices.Equal[[]int]) || !ok {
		t.Error("GoalsOfTeams", got, ok)
	}
	if won, drawn, lost, ok := impl.WonDrawnLost(l, 3); won != 0 || drawn != 0 || lost != 0 || !ok {
		t.Error("WonDrawnLost", won, drawn, lost, ok)
	}
	if got, ok := impl.LeagueTable(l); !slices.Equal(got, []int{0, 1, 2, 3}) || !ok {
		t.Error("LeagueTable", got, ok)
	}
	if got, ok := impl.MostPoints(l, 3); got != 12 || !ok {
		t.Error("MostPoints", got, ok)
	}
	if a, b, ok := impl.DirectPoints(l, 0, 3); a != 0 || b != 0 || !ok {
		t.Error("DirectPoints", a, b, ok)
	}
	if got, ok := impl.LongestUnbeaten(l, 3); got != 0 || !ok {
		t.Error("LongestUnbeaten", got, ok)
	}
	if got, ok := impl.CountFirsts(l, 3); got != 0 || ok {
		t.Error("CountFirsts with 12 games left", got, ok)
	}
	if got, ok := impl.CountFirsts(league(t, "2w2|"), 1); got != 6 || !ok {
		t.Error("CountFirsts of two teams", got, ok)
	}
}

// TestLeagueTable holds what decides among teams, in turn: points, goals less those against, goals, numbers.
func TestLeagueTable(t *testing.T) {
	for _, c := range []struct {
		text  string
		table []int
	}{
		{"2w2|0-1=0:1", []int{1, 0}}, {"2w2|1-0=0:1", []int{0, 1}}, {"2w2|0-1=3:3", []int{0, 1}}, {"2w2|0-1=1:0,1-0=5:0", []int{1, 0}}, {"2w2|0-1=1:5,1-0=0:4", []int{0, 1}},
		{"4w3|0-1=0:0,0-2=0:0,3-1=0:20,2-3=1:0", []int{1, 2, 0, 3}}, // More points, with a win.
		{"4w3|0-1=2:1,2-3=3:1", []int{2, 0, 1, 3}},                  // Equal points, a greater lead with more goals against.
		{"4w3|0-1=4:2,2-3=2:0", []int{0, 2, 1, 3}},                  // An equal lead, more goals.
		{"4w3|0-1=2:0,2-3=4:2", []int{2, 0, 3, 1}},                  // The same the other way round.
		{"4w3|0-1=9:7,2-3=3:0", []int{2, 0, 1, 3}},                  // More goals do not make up for a lead.
		{"4w3|2-3=1:0,1-0=1:0", []int{1, 2, 0, 3}},                  // All equal, lesser numbers.
		{"4w3|3-1=1:1,2-0=2:2", []int{0, 2, 1, 3}}, {"4w3|3-1=2:2,2-0=1:1", []int{1, 3, 0, 2}}, {"5w2|4-1=0:0", []int{1, 4, 0, 2, 3}}, {"3w2|2-1=20:20", []int{1, 2, 0}},
		{"3w2|0-1=1:0,1-0=0:0,2-1=0:1,2-0=1:0", []int{0, 1, 2}}, {"3w3|0-1=0:0,1-0=0:0,2-0=1:0,1-2=3:0", []int{1, 2, 0}}, {"3w3|0-1=0:0,1-0=0:0,2-0=3:0,1-2=0:0", []int{2, 1, 0}},
		// Two draws are as much as a win of 2, and less than a win of 3.
		{"4w2|0-1=0:0,2-0=0:0,3-1=20:0,2-3=1:0", []int{2, 3, 0, 1}}, {"4w2|0-1=9:9,1-0=9:9,2-3=1:0", []int{2, 0, 1, 3}}, {"4w3|0-1=9:9,1-0=9:9,3-2=1:0", []int{3, 0, 1, 2}},
		{"8w3|7-0=1:0,6-1=1:0,5-2=1:0,4-3=1:0", []int{4, 5, 6, 7, 0, 1, 2, 3}}, {"8w3|7-0=4:0,6-1=3:0,5-2=2:0,4-3=1:0", []int{7, 6, 5, 4, 3, 2, 1, 0}}, {"8w3|0-7=0:0", []int{0, 7, 1, 2, 3, 4, 5, 6}},
	} {
		l := league(t, c.text)
		checkLeague(t, l)
		if got, ok := impl.LeagueTable(l); !slices.Equal(got, c.table) || !ok {
			t.Errorf("LeagueTable(%s) = %v %v, want %v", c.text, got, ok, c.table)
		}
		for place, team := range c.table {
			if got, ok := impl.RankOfTeam(l, team); got != place+1 || !ok {
				t.Errorf("RankOfTeam(%s, %d) = %d %v, want %d", c.text, team, got, ok, place+1)
			}
		}
	}
}

// TestTableOfEqualTeams asks for the same tables again and again.
func TestTableOfEqualTeams(t *testing.T) {
	for range 200 {
		if got, ok := impl.LeagueTable(impl.League{Teams: 8, Win: 3}); !slices.Equal(got, []int{0, 1, 2, 3, 4, 5, 6, 7}) || !ok {
			t.Fatal("LeagueTable of equal teams", got, ok)
		}
		if got, ok := impl.LeagueTable(league(t, "8w3|5-2=1:1,7-1=1:1")); !slices.Equal(got, []int{1, 2, 5, 7, 0, 3, 4, 6}) || !ok {
			t.Fatal("LeagueTable of equal teams behind two draws", got, ok)
		}
	}
}

// TestCountFirsts holds counts that are known: all ways, none, one, and those next to MaxOpenResults.
func TestCountFirsts(t *testing.T) {
	for _, c := range []struct {
		text   string
		firsts []int
	}{
		{"2w2|", []int{6, 6}}, {"2w3|", []int{6, 6}}, {"2w3|0-1=1:0", []int{3, 1}}, {"2w3|0-1=0:0", []int{2, 2}}, {"2w2|1-0=0:20", []int{3, 1}},
		{"2w3|0-1=1:0,1-0=0:1", []int{1, 0}}, {"2w3|0-1=1:0,1-0=1:0", []int{1, 1}}, {"2w2|0-1=9:9,1-0=0:0", []int{1, 1}},
		{leagueExample, []int{7, 1, 2}}, {"3w3|0-1=2:1,0-2=1:0,1-0=0:1,2-0=0:1", []int{9, 0, 0}}, {"3w3|0-1=1:1,0-2=1:1,1-0=1:1,2-0=1:1", []int{1, 6, 6}}, {"3w2|0-1=1:1,0-2=1:1,1-0=1:1,2-0=1:1", []int{3, 6, 6}},
		// A win and a draw are just enough for 2, and two wins for 1.
		{"3w2|0-1=1:0,1-0=0:0,2-0=1:0,0-2=1:0", []int{8, 1, 3}}, {"3w3|0-1=1:0,1-0=0:0,2-0=1:0,0-2=1:0", []int{8, 1, 3}},
	} {
		l := league(t, c.text)
		checkLeague(t, l)
		for team, want := range c.firsts {
			if got, ok := impl.CountFirsts(l, team); got != want || !ok {
				t.Errorf("CountFirsts(%s, %d) = %d %v, want %d", c.text, team, got, ok, want)
			}
			if got, ok := impl.CanBeFirst(l, team); got != (want > 0) || !ok {
				t.Errorf("CanBeFirst(%s, %d) = %v %v", c.text, team, got, ok)
			}
		}
	}
}

// TestMaxOpenResults drops results until more games are left than counts may have.
func TestMaxOpenResults(t *testing.T) {
	r := rand.New(rand.NewSource(66))
	for teams := 4; teams <= 8; teams++ {
		l := randomLeague(r, teams, 0, 3)
		for left := range 12 {
			for team := range teams {
				fine := left <= impl.MaxOpenResults
				first, ok := impl.CanBeFirst(l, team)
				ways, okay := impl.CountFirsts(l, team)
				if ok != fine || okay != fine || !fine && (first || ways != 0) {
					t.Errorf("with %d games left: CanBeFirst(%s, %d) = %v %v, CountFirsts %d %v", left, leagueName(l), team, first, ok, ways, okay)
				}
				if most, ok := impl.MostPoints(l, team); most == 0 || !ok {
					t.Errorf("with %d games left: MostPoints(%s, %d) = %d %v", left, leagueName(l), team, most, ok)
				}
			}
			l, _ = impl.DropResult(l, r.Intn(len(l.Results)))
		}
	}
	// The team 3 leads by so much that it is first in all ways of the games of the others.
	l := league(t, "4w3|3-0=1:0,3-1=1:0,3-2=1:0,0-3=0:1,1-3=0:1,2-3=0:1")
	for team, want := range []int{0, 0, 0, 729} {
		if got, ok := impl.CountFirsts(l, team); got != want || !ok {
			t.Errorf("CountFirsts of %d = %d %v, want %d", team, got, ok, want)
		}
	}
	l, _ = impl.DropResult(l, 0)
	if got, ok := impl.CountFirsts(l, 3); got != 2187 || !ok {
		t.Errorf("CountFirsts of all ways = %d %v", got, ok)
	}
	l, _ = impl.DropResult(l, 0)
	if got, ok := impl.CountFirsts(l, 3); got != 0 || ok {
		t.Errorf("CountFirsts of more than MaxOpenResults games = %d %v", got, ok)
	}
}

func TestDirectPoints(t *testing.T) {
	for _, c := range []struct {
		text   string
		a, b   int
		pa, pb int
	}{
		{"3w3|0-1=1:0,1-0=0:1", 0, 1, 6, 0}, {"3w3|0-1=1:0,1-0=0:1", 1, 0, 0, 6}, {"3w2|0-1=1:0,1-0=0:1", 0, 1, 4, 0}, {"3w3|0-1=1:0,1-0=1:0", 0, 1, 3, 3}, {"3w3|1-0=2:2", 0, 1, 1, 1},
		{"3w3|1-0=2:2,0-1=0:20", 0, 1, 1, 4}, {"3w2|1-0=2:2,0-1=0:20", 1, 0, 3, 1}, {"3w3|0-2=1:0,2-0=1:0,1-2=3:0", 0, 1, 0, 0}, {"3w3|0-2=1:0,2-0=1:0,1-2=3:0", 1, 2, 3, 0}, {"8w3|7-6=1:1,6-7=1:1", 6, 7, 2, 2},
	} {
		if a, b, ok := impl.DirectPoints(league(t, c.text), c.a, c.b); a != c.pa || b != c.pb || !ok {
			t.Errorf("DirectPoints(%s, %d, %d) = %d %d %v, want %d %d", c.text, c.a, c.b, a, b, ok, c.pa, c.pb)
		}
	}
	for team := range 3 {
		if a, b, ok := impl.DirectPoints(league(t, leagueExample), team, team); a != 0 || b != 0 || ok {
			t.Errorf("DirectPoints of %d against itself = %d %d %v", team, a, b, ok)
		}
	}
}

// TestLongestUnbeaten holds that only the games of a team tell, in turn, wherever they are among the others.
func TestLongestUnbeaten(t *testing.T) {
	for _, c := range []struct {
		text    string
		longest []int
	}{
		{"3w3|0-1=1:0", []int{1, 0, 0}}, {"3w3|0-1=1:1", []int{1, 1, 0}}, {"3w3|0-1=0:1", []int{0, 1, 0}}, {"2w3|0-1=1:1,1-0=0:0", []int{2, 2}}, {"2w3|0-1=1:0,1-0=1:0", []int{1, 1}},
		{"4w3|0-1=1:0,2-1=1:0,3-0=2:2,1-2=4:0,0-2=3:1,1-0=1:0,0-3=1:1", []int{3, 2, 1, 2}},
		{"4w3|0-1=0:1,0-2=1:0,0-3=1:0,1-0=0:0", []int{3, 2, 0, 0}}, {"4w3|0-1=1:0,0-2=0:1,0-3=1:0,1-0=0:1", []int{2, 0, 1, 0}}, {"4w3|0-1=1:0,0-2=1:0,0-3=0:1,1-0=0:1", []int{2, 0, 0, 1}},
	} {
		l := league(t, c.text)
		for team, want := range c.longest {
			if got, ok := impl.LongestUnbeaten(l, team); got != want || !ok {
				t.Errorf("LongestUnbeaten(%s, %d) = %d %v, want %d", c.text, team, got, ok, want)
			}
		}
	}
}

// TestFirstRing holds rings in both directions, the first of several ones, and that draws make none.
func TestFirstRing(t *testing.T) {
	for _, c := range []struct {
		text string
		ring []int
	}{
		{"3w3|0-1=1:0,1-2=1:0,2-0=1:0", []int{0, 1, 2}}, {"3w3|1-0=0:1,2-1=0:1,0-2=0:1", []int{0, 1, 2}}, {"3w3|0-2=1:0,2-1=1:0,1-0=1:0", []int{0, 2, 1}}, {"3w3|0-2=1:0,1-2=0:1,1-0=1:0", []int{0, 2, 1}},
		{"3w3|0-1=1:0,1-2=1:0,2-0=1:0,1-0=1:0,2-1=1:0,0-2=1:0", []int{0, 1, 2}}, {"3w3|0-1=1:0,1-0=20:0,1-2=1:0,2-1=3:0,2-0=1:0,0-2=0:0", []int{0, 1, 2}},
		{"3w3|0-1=1:0,1-2=1:0,2-0=1:1", nil}, {"3w3|0-1=1:1,1-2=1:1,2-0=1:1", nil}, {"3w3|0-1=1:0,1-2=1:0,2-0=0:1", nil}, {"3w3|0-1=1:0,1-2=1:0", nil}, {"3w3|", nil}, {"2w3|", nil}, {"2w3|0-1=1:0,1-0=1:0", nil},
		{"5w3|3-4=1:0,4-2=1:0,2-3=1:0", []int{2, 3, 4}}, {"5w3|4-3=1:0,3-2=1:0,2-4=1:0", []int{2, 4, 3}}, {"5w3|4-3=1:0,3-2=1:0,2-4=1:0,1-4=1:0,4-2=1:0,2-1=1:0", []int{1, 4, 2}},
		{"5w3|0-4=1:0,4-3=1:0,3-0=1:0,1-2=1:0,2-3=1:0,3-1=1:0", []int{0, 4, 3}}, {"5w3|0-4=1:0,4-1=1:0,1-0=1:0,0-2=1:0,2-3=1:0,3-0=1:0", []int{0, 2, 3}}, {"5w3|0-2=1:0,2-4=1:0,4-0=1:0,2-3=1:0,3-0=1:0", []int{0, 2, 3}},
		{"8w3|7-6=1:0,5-7=1:0,6-5=1:0", []int{5, 7, 6}}, {"4w3|0-1=1:0,1-2=1:0,2-3=1:0,3-0=1:0", nil}, // A ring of four teams is none.
	} {
		l := league(t, c.text)
		checkLeague(t, l)
		if got, ok := impl.FirstRing(l); !slices.Equal(got, c.ring) || ok != (c.ring != nil) {
			t.Errorf("FirstRing(%s) = %v %v, want %v", c.text, got, ok, c.ring)
		}
	}
}

func roundsText(rounds [][][]int) string {
	var texts []string
	for _, round := range rounds {
		var games []string
		for _, game := range round {
			var teams []string
			for _, team := range game {
				teams = append(teams, strconv.Itoa(team))
			}
			games = append(games, strings.Join(teams, " "))
		}
		texts = append(texts, strings.Join(games, ", "))
	}
	return strings.Join(texts, "; ")
}

// TestRounds holds promise 6 for rounds: each pair plays once, and each team once in each round.
func TestRounds(t *testing.T) {
	for teams, want := range map[int]string{
		2: "1 0",
		4: "3 0, 1 2; 1 3, 2 0; 3 2, 0 1",
		6: "5 0, 1 4, 2 3; 1 5, 2 0, 3 4; 5 2, 3 1, 4 0; 3 5, 4 2, 0 1; 5 4, 0 3, 1 2",
		8: "7 0, 1 6, 2 5, 3 4; 1 7, 2 0, 3 6, 4 5; 7 2, 3 1, 4 0, 5 6; 3 7, 4 2, 5 1, 6 0; 7 4, 5 3, 6 2, 0 1; 5 7, 6 4, 0 3, 1 2; 7 6, 0 5, 1 4, 2 3",
	} {
		rounds, ok := impl.RoundsFor(teams)
		if roundsText(rounds) != want || !ok {
			t.Errorf("RoundsFor(%d) = %s %v, want %s", teams, roundsText(rounds), ok, want)
		}
		met := map[[2]int]bool{}
		for _, round := range rounds {
			playing := map[int]bool{}
			for _, game := range round {
				playing[game[0]], playing[game[1]] = true, true
				met[[2]int{min(game[0], game[1]), max(game[0], game[1])}] = true
			}
			if len(round) != teams/2 || len(playing) != teams {
				t.Errorf("RoundsFor(%d) has the round %v", teams, round)
			}
		}
		if len(rounds) != teams-1 || len(met) != teams*(teams-1)/2 {
			t.Errorf("RoundsFor(%d) = %v", teams, rounds)
		}
	}
	for _, teams := range append([]int{-8, -4, -3, -2, 5, 7, 9, 10, 12, 16, 56}, wildInts...) {
		if teams == 2 || teams == 4 {
			continue
		}
		if got, ok := impl.RoundsFor(teams); len(got) != 0 || ok {
			t.Errorf("RoundsFor(%d) = %v %v", teams, got, ok)
		}
	}
}

// TestRoundsMakeALeague plays all rounds twice, the second time with Home and Away exchanged, and then no game is left.
func TestRoundsMakeALeague(t *testing.T) {
	for teams := 2; teams <= 8; teams += 2 {
		rounds, _ := impl.RoundsFor(teams)
		l := impl.League{Teams: teams, Win: 3}
		for turn := range 2 {
			for _, round := range rounds {
				for _, game := range round {
					next, ok := impl.AddResult(l, impl.Result{Home: game[turn], Away: game[1-turn], HomeGoals: game[0]})
					if !ok {
						t.Fatalf("AddResult(%s, %v) fails", leagueName(l), game)
					}
					l = next
				}
			}
		}
		if left, ok := impl.LeftResults(l); len(left) != 0 || !ok {
			t.Errorf("LeftResults(%s) = %v %v", leagueName(l), left, ok)
		}
		checkLeague(t, l)
	}
}

// isResultOf tells what a result needs to come behind those of a league.
func isResultOf(l impl.League, r impl.Result) bool {
	for _, n := range []int{r.HomeGoals, r.AwayGoals} {
		if n < 0 || n > 20 {
			return false
		}
	}
	return slices.ContainsFunc(leftOf(l), func(pair []int) bool { return pair[0] == r.Home && pair[1] == r.Away })
}

// checkAdded holds that a result comes behind the others, or that this is no league and fails.
func checkAdded(t *testing.T, l impl.League, r impl.Result) {
	t.Helper()
	want := impl.League{Teams: l.Teams, Win: l.Win, Results: append(slices.Clone(l.Results), r)}
	fine := isResultOf(l, r)
	if is := impl.IsLeague(want); is != fine {
		t.Errorf("IsLeague(%s) = %v", leagueName(want), is)
	}
	if !fine {
		checkNoLeague(t, want)
		want = impl.League{}
	}
	if got, ok := impl.AddResult(l, r); !sameLeague(got, want) || ok != fine {
		t.Errorf("AddResult(%s, %v) = %v %v", leagueName(l), r, got, ok)
	}
}

func TestAddResult(t *testing.T) {
	r := rand.New(rand.NewSource(666))
	for teams := 2; teams <= 8; teams++ {
		l := randomLeague(r, teams, r.Intn(3), 20)
		if teams == 2 {
			l = league(t, "2w3|1-0=0:0")
		}
		for _, x := range l.Results {
			checkAdded(t, l, x)
			checkAdded(t, l, impl.Result{Home: x.Home, Away: x.Away, HomeGoals: 20 - x.HomeGoals})
			checkAdded(t, l, impl.Result{Home: x.Away, Away: x.Home})
		}
		l.Results = l.Results[:len(l.Results)/2]
		for home := -1; home <= teams; home++ {
			for away := -1; away <= teams; away++ {
				checkAdded(t, l, impl.Result{Home: home, Away: away, HomeGoals: 20, AwayGoals: 20})
			}
		}
		for _, n := range append([]int{19, 22, -20}, wildInts...) {
			pair := leftOf(l)[0]
			checkAdded(t, l, impl.Result{Home: pair[0], Away: pair[1], HomeGoals: n})
			checkAdded(t, l, impl.Result{Home: pair[0], Away: pair[1], AwayGoals: n})
			checkAdded(t, l, impl.Result{Home: pair[0], Away: pair[1], HomeGoals: n, AwayGoals: n})
			checkAdded(t, l, impl.Result{Home: n, Away: pair[1]})
			checkAdded(t, l, impl.Result{Home: pair[0], Away: n})
			checkAdded(t, l, impl.Result{Home: n, Away: n})
		}
	}
	over := randomLeague(r, 8, 0, 20)
	checkAdded(t, over, impl.Result{Home: 0, Away: 1})
	checkAdded(t, over, impl.Result{Home: 3, Away: 3})
	got, ok := impl.AddResult(league(t, leagueExample), impl.Result{Home: 1, Away: 0, HomeGoals: 2})
	if leagueName(got) != leagueExample+",1-0=2:0" || !ok {
		t.Error("AddResult of the example", leagueName(got), ok)
	}
}

func TestDropResult(t *testing.T) {
	for k, want := range []string{"3w3|1-2=0:0,2-0=1:0,0-2=3:1", "3w3|0-1=2:1,2-0=1:0,0-2=3:1", "3w3|0-1=2:1,1-2=0:0,0-2=3:1", "3w3|0-1=2:1,1-2=0:0,2-0=1:0"} {
		if got, ok := impl.DropResult(league(t, leagueExample), k); leagueName(got) != want || !ok {
			t.Errorf("DropResult(%s, %d) = %s %v, want %s", leagueExample, k, leagueName(got), ok, want)
		}
	}
	if got, ok := impl.DropResult(league(t, "2w2|0-1=3:4"), 0); leagueName(got) != "2w2|" || !ok {
		t.Error("DropResult of the only result", leagueName(got), ok)
	}
	r := rand.New(rand.NewSource(6666))
	for teams := 2; teams <= 8; teams++ {
		l := randomLeague(r, teams, r.Intn(2), 20)
		for k := range l.Results {
			want := impl.League{Teams: l.Teams, Win: l.Win, Results: slices.Delete(slices.Clone(l.Results), k, k+1)}
			if got, ok := impl.DropResult(l, k); !sameLeague(got, want) || !ok {
				t.Errorf("DropResult(%s, %d) = %s %v", leagueName(l), k, leagueName(got), ok)
			}
		}
		for _, k := range append([]int{len(l.Results), len(l.Results) + 1, -len(l.Results)}, wildInts...) {
			if got, ok := impl.DropResult(l, k); (k < 0 || k >= len(l.Results)) && (!isZero(got) || ok) {
				t.Errorf("DropResult(%s, %d) = %v %v", leagueName(l), k, got, ok)
			}
		}
	}
	for _, k := range wildInts {
		if got, ok := impl.DropResult(league(t, "8w3|"), k); !isZero(got) || ok {
			t.Errorf("DropResult of no results, %d = %v %v", k, got, ok)
		}
	}
}

func TestTurnResults(t *testing.T) {
	got, ok := impl.TurnResults(league(t, leagueExample))
	if leagueName(got) != "3w3|1-0=1:2,2-1=0:0,0-2=0:1,2-0=1:3" || !ok {
		t.Error("TurnResults of the example", leagueName(got), ok)
	}
	r := rand.New(rand.NewSource(66666))
	for range 100 {
		teams := 2 + r.Intn(7)
		l := randomLeague(r, teams, r.Intn(teams*(teams-1)+1), 4)
		turn, _ := impl.TurnResults(l)
		table, _ := impl.LeagueTable(l)
		if again, ok := impl.LeagueTable(turn); !slices.Equal(again, table) || !ok {
			t.Errorf("LeagueTable(%s) = %v %v, want %v", leagueName(turn), again, ok, table)
		}
	}
}

const resultForm = `[0-7]-[0-7]=(?:1?[0-9]|20):(?:1?[0-9]|20)`

var leagueForm = regexp.MustCompile(`^([2-8])w[23]\|(?:` + resultForm + `(?:,` + resultForm + `)*)?$`)

// isLeagueText looks at the form of a text first, and then at the teams in it.
func isLeagueText(text string) bool {
	form := leagueForm.FindStringSubmatch(text)
	if form == nil {
		return false
	}
	met := map[string]bool{}
	for _, result := range strings.Split(text[4:], ",") {
		if result == "" {
			break
		}
		if pair := result[:3]; met[pair] || pair[0] == pair[2] || pair[0] >= form[1][0] || pair[2] >= form[1][0] {
			return false
		}
		met[result[:3]] = true
	}
	return true
}

// checkLeagueText holds that a text leads back to itself, or is none.
func checkLeagueText(t *testing.T, text string) {
	t.Helper()
	fine := isLeagueText(text)
	l, ok := impl.ParseLeague(text)
	if ok != fine || ok != impl.IsLeague(l) || !ok && !isZero(l) {
		t.Errorf("ParseLeague(%.80q) = %.80v %v", text, l, ok)
	}
	if again, ok := impl.LeagueText(l); fine && again != text || ok != fine {
		t.Errorf("LeagueText of %.80q = %.80q %v", text, again, ok)
	}
}

func TestLeagueTexts(t *testing.T) {
	for _, text := range everyText("023w|-", 5) {
		checkLeagueText(t, text)
	}
	for _, text := range everyText("01-=:", 7) {
		checkLeagueText(t, "2w3|"+text)
	}
	for n := range 111 {
		for _, number := range []string{strconv.Itoa(n), "0" + strconv.Itoa(n), "+" + strconv.Itoa(n), "-" + strconv.Itoa(n), " " + strconv.Itoa(n), strconv.Itoa(n) + " "} {
			for _, form := range []string{"#w3|", "3w#|", "8w3|#-0=0:0", "8w3|0-#=0:0", "8w3|0-1=#:0", "8w3|0-1=0:#", "8w3|0-1=0:0,#-2=1:1", "#w2|4-5=6:7"} {
				checkLeagueText(t, strings.Replace(form, "#", number, 1))
			}
		}
	}
}

// spoilText takes letters out of a text, puts others in, and exchanges them.
func spoilText(text, letters string, look func(text string)) {
	for i := range len(text) {
		look(text[:i] + text[i+1:])
		for _, letter := range letters {
			look(text[:i] + string(letter) + text[i:])
			look(text[:i] + string(letter) + text[i+1:])
			look(text + string(letter))
		}
	}
}

func TestSpoiledLeagueTexts(t *testing.T) {
	r := rand.New(rand.NewSource(7))
	texts := []string{leagueExample, "2w2|", "8w3|", "8w2|7-6=20:20", "4w3|0-1=10:0,1-0=0:10,3-2=2:2"}
	for teams := 2; teams <= 8; teams++ {
		texts = append(texts, leagueName(randomLeague(r, teams, 0, 20)))
	}
	for _, text := range texts {
		checkLeagueText(t, text)
		spoilText(text, "0123789w|-=:,+ \n\x00x", func(text string) { checkLeagueText(t, text) })
	}
}

func TestTextsOfNoLeagues(t *testing.T) {
	for _, text := range []string{
		"", "|", "w", "w|", "3", "3w", "3w3", "w3|", "3w|", "33|", "1w3|", "9w3|", "3w1|", "3w4|", "0w0|", "3W3|", "3w3||", "3w3|,", "3w3| ", " 3w3|", "3w3|\n", "3w3w|", "3|3w", "-3w3|", "3w-3|", "3w3|0-1", "3w3|0-1=", "3w3|0-1=1", "3w3|0-1=1:",
		"3w3|0-1=:1", "3w3|0=1:1", "3w3|-1=1:1", "3w3|0-=1:1", "3w3|0-1:1=1", "3w3|0-0=1:1", "3w3|0-3=1:1", "3w3|3-0=1:1", "3w3|0-1=21:1", "3w3|0-1=1:21", "3w3|0-1=-1:1", "3w3|0-1=1:-1", "3w3|0--1=1:1", "3w3|-1-0=1:1", "3w3|0-1=1:1,",
		"3w3|,0-1=1:1", "3w3|0-1=1:1,,1-2=1:1", "3w3|0-1=1:1,0-1=1:1", "3w3|0-1=1:1,0-1=2:2", "3w3|0-1=1:1;1-2=1:1", "3w3|0-1=1:1 1-2=1:1", "3w3|0-1=1:1:1", "3w3|0-1=1:1=1", "3w3|0-1-2=1:1", "3w3|0-1=1:1-2", "3w3|0-1=1:1|", "3w3|0-1=1:1|0-2=1:1",
		"3w3|0-1=0x1:1", "3w3|0-1=1e0:1", "3w3|0-1=1_0:1", "3w3|0-1=٣:1", "３w3|", "3w3|0−1=1:1", "3w3|\xff", "18446744073709551619w3|", "3w18446744073709551619|", "3w3|0-1=18446744073709551616:0", "99999999999999999999w3|",
		"9223372036854775807w3|", "3w3|0-9223372036854775807=1:1", "3w3|0-1=9223372036854775807:1", "3w3|0-1=1:-9223372036854775808",
		strings.Repeat("3", 1<<20), "3w3|" + strings.Repeat(",", 1<<20), "3w3|" + strings.Repeat("0-1=1:1,", 1<<18), "3w3|0-1=" + strings.Repeat("0", 1<<20) + "1:1", strings.Repeat("w", 1<<20), strings.Repeat("|", 1<<20), "3w3|0-1=1:1" + strings.Repeat(" ", 1<<20),
	} {
		if got, ok := impl.ParseLeague(text); !isZero(got) || ok {
			t.Errorf("ParseLeague(%.60q) = %.60v %v", text, got, ok)
		}
	}
}

// wildLeagues are leagues that are none: one of their numbers is beyond its limits, or two results are of the same game.
func wildLeagues() []impl.League {
	r := rand.New(rand.NewSource(67))
	var all []impl.League
	for _, n := range append([]int{5, 8, 9, 19, 22, -20}, wildInts...) {
		if n < 2 || n > 8 {
			all = append(all, impl.League{Teams: n, Win: 3}, impl.League{Teams: n, Win: 2, Results: []impl.Result{{Home: 0, Away: 1}}})
		}
		if n != 2 && n != 3 {
			all = append(all, impl.League{Teams: 4, Win: n}, impl.League{Teams: n, Win: n}, impl.League{Teams: 4, Win: n, Results: []impl.Result{{Home: 0, Away: 1}}})
		}
		for place := range 3 {
			for _, r := range []impl.Result{{Home: n, Away: 3}, {Home: 3, Away: n}, {Home: n, Away: n}, {Home: 3, Away: 0, HomeGoals: n}, {Home: 3, Away: 0, AwayGoals: n}, {Home: 3, Away: 0, HomeGoals: n, AwayGoals: n}} {
				l := impl.League{Teams: 4, Win: 3, Results: []impl.Result{{Home: 0, Away: 1}, {Home: 1, Away: 2}}}
				if !isResultOf(l, r) {
					l.Results = slices.Insert(l.Results, place, r)
					all = append(all, l)
				}
			}
		}
	}
	for teams := 2; teams <= 8; teams++ {
		l := randomLeague(r, teams, r.Intn(2), 3)
		l.Results = append(l.Results, l.Results[r.Intn(len(l.Results))])
		all = append(all, l)
		twice := randomLeague(r, teams, 0, 3)
		twice.Results = append(twice.Results, twice.Results...)
		all = append(all, twice)
	}
	return append(all, impl.League{}, impl.League{Teams: 8, Win: 3, Results: make([]impl.Result, 1<<20)}, impl.League{Results: []impl.Result{{Home: 0, Away: 1}}})
}

// TestWildLeagues holds promise 11: what is no league fails everywhere, with zero results.
func TestWildLeagues(t *testing.T) {
	for _, l := range wildLeagues() {
		checkNoLeague(t, l)
	}
}

func TestWildTeams(t *testing.T) {
	for _, text := range []string{leagueExample, "2w3|", "8w2|", "8w2|7-0=1:2", "2w3|0-1=0:0,1-0=0:0"} {
		l := league(t, text)
		for _, n := range append([]int{5, 7, 8, 9, 56}, wildInts...) {
			if n < 0 || n >= l.Teams {
				checkNoTeam(t, l, n)
			}
		}
	}
}

func TestIsLeague(t *testing.T) {
	for _, text := range []string{"2w2|", "2w3|", "8w2|", "8w3|", leagueExample, "2w3|0-1=0:0,1-0=20:20", "8w2|7-6=20:0,6-7=0:20"} {
		if !impl.IsLeague(league(t, text)) {
			t.Errorf("IsLeague(%s) = false", text)
		}
	}
	for _, teams := range wildInts {
		for _, win := range wildInts {
			fine := teams >= 2 && teams <= 8 && (win == 2 || win == 3)
			if impl.IsLeague(impl.League{Teams: teams, Win: win}) != fine {
				t.Errorf("IsLeague of %d teams and a Win of %d", teams, win)
			}
		}
	}
	// The same two teams may meet twice, with the other one Home, and no team may meet itself.
	for _, c := range []struct {
		results []impl.Result
		fine    bool
	}{
		{[]impl.Result{{Home: 0, Away: 1}, {Home: 1, Away: 0}}, true}, {[]impl.Result{{Home: 0, Away: 1}, {Home: 0, Away: 1}}, false}, {[]impl.Result{{Home: 0, Away: 1}, {Home: 1, Away: 2}, {Home: 0, Away: 1, HomeGoals: 3}}, false},
		{[]impl.Result{{Home: 1, Away: 1}}, false}, {[]impl.Result{{Home: 0, Away: 0}}, false}, {[]impl.Result{{}}, false}, {[]impl.Result{{Home: 2, Away: 1}}, true}, {[]impl.Result{{Home: 3, Away: 1}}, false},
		{[]impl.Result{{Home: 0, Away: 1}, {Home: 0, Away: 2}, {Home: 1, Away: 2}, {Home: 2, Away: 1}}, true}, {[]impl.Result{{Home: 0, Away: 1}, {Home: 0, Away: 2}, {Home: 2, Away: 1}, {Home: 2, Away: 1}}, false},
	} {
		if impl.IsLeague(impl.League{Teams: 3, Win: 3, Results: c.results}) != c.fine {
			t.Errorf("IsLeague of the results %v = %v", c.results, !c.fine)
		}
	}
}

// callLeague calls every function that takes a league.
func callLeague(l impl.League, n int) {
	impl.IsLeague(l)
	impl.LeaguePoints(l)
	impl.GoalsOfTeams(l)
	impl.WonDrawnLost(l, n)
	impl.LeagueTable(l)
	impl.RankOfTeam(l, n)
	impl.LeftResults(l)
	impl.MostPoints(l, n)
	impl.CanBeFirst(l, n)
	impl.CountFirsts(l, n)
	impl.DirectPoints(l, n, 0)
	impl.DirectPoints(l, 1, n)
	impl.LongestUnbeaten(l, n)
	impl.FirstRing(l)
	impl.AddResult(l, impl.Result{Home: n, Away: 0})
	impl.AddResult(l, impl.Result{Home: 1, Away: 0})
	impl.DropResult(l, n)
	impl.TurnResults(l)
	impl.LeagueText(l)
}

// TestLeaguesAreKept holds promise 11: results and the room behind them are neither written nor read.
func TestLeaguesAreKept(t *testing.T) {
	leagues := []impl.League{{Teams: 2, Win: 2}, league(t, leagueExample), league(t, "8w3|7-6=1:0,6-5=1:0,5-7=1:0"), league(t, "3w2|0-1=1:0,0-2=2:0")}
	all := append(leagues, wildLeagues()...)
	for _, l := range all {
		for _, room := range [][]impl.Result{{{Home: 1, Away: 0, HomeGoals: 5}}, {{}, {}, {}}, {{Home: 0, Away: 1, AwayGoals: 1}, {Home: -5, Away: 99}}} {
			if len(l.Results) > 100 {
				continue
			}
			whole := slices.Concat(l.Results, room)
			kept := slices.Clone(whole)
			with := impl.League{Teams: l.Teams, Win: l.Win, Results: whole[:len(l.Results)]}
			for _, n := range []int{-1, 0, 1, 2, 7} {
				callLeague(with, n)
			}
			if impl.IsLeague(l) {
				checkLeague(t, with)
				checkAdded(t, with, impl.Result{Home: 1, Away: 0, HomeGoals: 7})
			} else {
				checkNoLeague(t, with)
			}
			if !slices.Equal(whole, kept) {
				t.Errorf("the results %v became %v", kept, whole)
			}
		}
	}
}

// spoilResults writes into a league and into the room behind its results.
func spoilResults(l impl.League) {
	whole := l.Results[:cap(l.Results)]
	for i := range whole {
		whole[i] = impl.Result{Home: -7, Away: -7, HomeGoals: -7, AwayGoals: -7}
	}
}

// TestNewLeaguesAreNew holds that leagues that are returned share no memory with those that were given.
func TestNewLeaguesAreNew(t *testing.T) {
	for range 2 {
		l := league(t, leagueExample)
		kept := slices.Clone(l.Results)
		added, _ := impl.AddResult(l, impl.Result{Home: 1, Away: 0})
		dropped, _ := impl.DropResult(l, 1)
		last, _ := impl.DropResult(l, 3)
		first, _ := impl.DropResult(l, 0)
		turn, _ := impl.TurnResults(l)
		read := league(t, leagueExample)
		for i, other := range []impl.League{added, dropped, last, first, turn, read} {
			spoilResults(other)
			if !slices.Equal(l.Results, kept) {
				t.Fatalf("the new league %d shares memory with that which was given: %v", i, l.Results)
			}
		}
	}
	none := impl.League{Teams: 2, Win: 2, Results: make([]impl.Result, 0, 5)}
	added, _ := impl.AddResult(none, impl.Result{Home: 1, Away: 0, HomeGoals: 3})
	if room := none.Results[:5]; room[0] != (impl.Result{}) {
		t.Error("AddResult writes behind the results:", room)
	}
	spoilResults(added)
	turn, _ := impl.TurnResults(none)
	spoilResults(turn)
	if room := none.Results[:5]; !slices.Equal(room, make([]impl.Result, 5)) {
		t.Error("a new league has the room behind the results:", room)
	}
}

// checkRowsAreNew spoils the rows of a result one after the other.
func checkRowsAreNew(t *testing.T, name string, rows [][]int) {
	t.Helper()
	var kept [][]int
	for _, row := range rows {
		kept = append(kept, slices.Clone(row))
	}
	for i := range rows {
		spoil(rows[i])
		for k := i + 1; k < len(rows); k++ {
			if !slices.Equal(rows[k], kept[k]) {
				t.Errorf("%s: the rows %d and %d share memory", name, i, k)
			}
		}
	}
}

func TestLeagueResultsAreNew(t *testing.T) {
	l := league(t, leagueExample)
	ring := league(t, "3w3|0-2=1:0,2-1=1:0,1-0=1:0")
	for range 2 {
		checkLeague(t, l)
		checkLeague(t, ring)
		points, _ := impl.LeaguePoints(l)
		spoil(points)
		table, _ := impl.LeagueTable(l)
		spoil(table)
		first, _ := impl.FirstRing(ring)
		spoil(first)
		goals, _ := impl.GoalsOfTeams(l)
		checkRowsAreNew(t, "GoalsOfTeams", goals)
		left, _ := impl.LeftResults(ring)
		checkRowsAreNew(t, "LeftResults", left)
		rounds, _ := impl.RoundsFor(8)
		if text := roundsText(rounds); !strings.HasPrefix(text, "7 0, 1 6") || !strings.HasSuffix(text, "1 4, 2 3") {
			t.Error("RoundsFor the second time", text)
		}
		checkRowsAreNew(t, "RoundsFor", slices.Concat(rounds...))
		for i, round := range rounds {
			if slices.ContainsFunc(round, func(game []int) bool { return game == nil }) {
				t.Errorf("RoundsFor: the round %d shares memory with one before", i)
			}
			clear(round[:cap(round)])
		}
	}
}
