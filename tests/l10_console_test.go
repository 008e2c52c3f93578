package tests

import (
	"fmt"
	"math/rand"
	"regexp"
	"slices"
	"strconv"
	"strings"
	"sync"
	"testing"

	"loop.example/g01368/impl"
)

// readLeague reads a league without the program's parser.
func readLeague(text string) impl.League {
	l := impl.League{Teams: numberOf(text[:1]), Win: numberOf(text[2:3])}
	for _, result := range strings.FieldsFunc(text[4:], func(r rune) bool { return r == ',' }) {
		var x impl.Result
		if _, err := fmt.Sscanf(result, "%d-%d=%d:%d", &x.Home, &x.Away, &x.HomeGoals, &x.AwayGoals); err != nil {
			panic(err)
		}
		l.Results = append(l.Results, x)
	}
	return l
}

// rollsWith finds the rolls with a text on a card, sign by sign.
func rollsWith(frames int, text string) ([]int, bool) {
	c := newCard(frames)
	var rolls []int
signs:
	for _, sign := range text {
		for pins := range c.up + 1 {
			if next, ok := c.roll(pins); ok && c.sign(pins) == string(sign) {
				c, rolls = next, append(rolls, pins)
				continue signs
			}
		}
		return nil, false
	}
	return rolls, true
}

func deskOf(left int, set string, frames int, rolls []int, league string) impl.Desk {
	return impl.Desk{Left: left, Set: set, Frames: frames, Rolls: rolls, League: readLeague(league)}
}

// firstDesk is the desk of the document.
func firstDesk() impl.Desk { return deskOf(170, "", 2, nil, leagueExample) }

func deskName(d impl.Desk) string {
	return fmt.Sprintf("{%d %.320q %d %v %s}", d.Left, d.Set, d.Frames, d.Rolls[:min(len(d.Rolls), 30)], leagueName(d.League))
}

func sameDesk(d, other impl.Desk) bool {
	return d.Left == other.Left && d.Set == other.Set && d.Frames == other.Frames && slices.Equal(d.Rolls, other.Rolls) && sameLeague(d.League, other.League)
}

func isNoDesk(d impl.Desk) bool { return sameDesk(d, impl.Desk{}) }

// isDesk tells which desks there are, by the tests' own models of all that is on them.
func isDesk(d impl.Desk) bool {
	_, isSet := readSet(d.Set)
	if !isSet || d.Left < 0 || d.Left > 1001 || d.Frames < 1 || d.Frames > 10 {
		return false
	}
	_, _, areRolls := cardOf(d.Frames, d.Rolls)
	return areRolls && d.League.Win >= 0 && d.League.Win <= 9 && isLeagueText(leagueName(d.League))
}

// lineKinds has, for each line of the document's table, a letter for what each word behind the first one is to be.
var lineKinds = map[string]string{
	"left": "N", "set": "P", "bowl": "T", "league": "L", "frames": "N", "visit": "D", "point": "S", "roll": "N", "result": "NNNN",
	"finish": "N", "ways": "N", "stands": "", "games": "", "breaks": "", "need": "S", "scores": "", "total": "", "most": "", "least": "",
	"table": "", "points": "", "open": "", "first": "N", "plays": "RNN", "chance": "ON", "game": "O", "from": "ONNN",
}

// goodLines has each line of the table once. All of them are done on the first desk, but for total.
var goodLines = []string{
	"left 41", "set aaaabbbbab", "bowl X3", "league 2w3|0-1=1:0", "frames 3", "visit t20-t20-20", "point a", "roll 8", "result 1 0 2 0",
	"finish 3", "ways 3", "stands", "games", "breaks", "need a", "scores", "total", "most", "least",
	"table", "points", "open", "first 1", "plays 3+2 3 1", "chance 2/3 2", "game 1/2", "from 1/2 2 1 0",
}

var (
	numberForm = regexp.MustCompile(`^(?:0|[1-9][0-9]{0,5})$`)
	dartForm   = `(?:[dt]?(?:[1-9]|1[0-9]|20)|d?25)`
	dartsForm  = regexp.MustCompile(`^` + dartForm + `(?:-` + dartForm + `){0,8}$`)
	oddsForm   = regexp.MustCompile(`^(?:[0-9]|10)/(?:[1-9]|10)$`)
)

func isKind(kind rune, word string, frames int) bool {
	switch kind {
	case 'N':
		return numberForm.MatchString(word)
	case 'S':
		return word == "a" || word == "b"
	case 'D':
		return dartsForm.MatchString(word)
	case 'P':
		_, ok := readSet(word)
		return ok
	case 'T':
		_, ok := rollsWith(frames, word)
		return ok
	case 'L':
		return isLeagueText(word)
	case 'R':
		return raceForm.MatchString(word)
	}
	return oddsForm.MatchString(word) && oddsOf(word).Num <= oddsOf(word).Den
}

func oddsOf(text string) impl.Odds {
	num, den, _ := strings.Cut(text, "/")
	return odds(numberOf(num), numberOf(den))
}

func raceOf(text string) impl.Race {
	to, lead, _ := strings.Cut(text, "+")
	return race(numberOf(to), numberOf(lead))
}

func orDash(text string) string {
	if text == "" {
		return "-"
	}
	return text
}

// isTold reports whether words are those of a line of the table.
func isTold(words []string, frames int) bool {
	kinds, ok := lineKinds[words[0]]
	if !ok || len(words) != 1+len(kinds) {
		return false
	}
	for i, kind := range kinds {
		if !isKind(kind, words[1+i], frames) {
			return false
		}
	}
	return true
}

// expected returns the desk behind a line, and its reply, by the calls that the document names.
func expected(desk impl.Desk, line string) (impl.Desk, string) {
	words := strings.Split(line, " ")
	if !isTold(words, desk.Frames) {
		return desk, "what"
	}
	if reply, ok, isAsked := asked(desk, words); isAsked {
		if !ok {
			reply = "no"
		}
		return desk, reply
	}
	next, ok := changed(desk, words)
	if !ok || !isDesk(next) {
		return desk, "no"
	}
	return next, saidOf(next, words[0])
}

func numbersIn(words []string) []int {
	var numbers []int
	for _, word := range words {
		n, _ := strconv.Atoi(word)
		numbers = append(numbers, n)
	}
	return numbers
}

// changed returns the desk with which a line goes on.
func changed(desk impl.Desk, words []string) (impl.Desk, bool) {
	word, n, ok := words[1], numbersIn(words[1:]), true
	switch words[0] {
	case "left":
		desk.Left = n[0]
	case "set":
		desk.Set = word
	case "bowl":
		desk.Rolls, ok = rollsWith(desk.Frames, word)
	case "league":
		desk.League = readLeague(word)
	case "frames":
		desk.Frames, desk.Rolls = n[0], nil
	case "visit":
		desk.Left, ok = impl.LeftAfter(desk.Left, throws(strings.ReplaceAll(word, "-", " ")))
	case "point":
		desk.Set += word
	case "roll":
		desk.Rolls = append(slices.Clone(desk.Rolls), n[0])
	case "result":
		desk.League, ok = impl.AddResult(desk.League, impl.Result{Home: n[0], Away: n[1], HomeGoals: n[2], AwayGoals: n[3]})
	default:
		panic("no such line: " + words[0])
	}
	return desk, ok
}

// saidOf returns the reply to a line that has changed the desk.
func saidOf(desk impl.Desk, name string) string {
	switch name {
	case "left", "visit":
		return strconv.Itoa(desk.Left)
	case "set", "point":
		return orDash(desk.Set)
	case "league", "result":
		return leagueName(desk.League)
	}
	_, text, _ := cardOf(desk.Frames, desk.Rolls)
	if text == "" {
		return "none"
	}
	return text
}

func replyOf(n int, ok bool) (string, bool, bool) { return strconv.Itoa(n), ok, true }

func fractionOf(num, den int, ok bool) (string, bool, bool) {
	return fmt.Sprintf("%d/%d", num, den), ok, true
}

func listOf(list []int, ok bool) (string, bool, bool) {
	return orDash(strings.ReplaceAll(strings.Trim(fmt.Sprint(list), "[]"), " ", ",")), ok, true
}

func listsOf(lists [][]int, ok bool) (string, bool, bool) {
	var texts []string
	for _, list := range lists {
		text, _, _ := listOf(list, ok)
		texts = append(texts, text)
	}
	return orDash(strings.Join(texts, " ")), ok, true
}

// asked returns the reply of the call that a line names, whether the call succeeds, and whether the line is one that only asks.
func asked(desk impl.Desk, words []string) (string, bool, bool) {
	n := numbersIn(words[1:])
	switch words[0] {
	case "finish":
		list, ok := impl.FirstFinish(desk.Left, n[0])
		text, _ := impl.DartsText(list)
		return text, ok, true
	case "ways":
		return replyOf(impl.CountFinishes(desk.Left, n[0]))
	case "stands":
		a, b, next, ok := impl.SetStands(desk.Set)
		return strings.TrimSpace(fmt.Sprint(a, b, " ", next)), ok, true
	case "games":
		text, ok := impl.GamesOf(desk.Set)
		return orDash(text), ok, true
	case "breaks":
		a, b, ok := impl.BreaksIn(desk.Set)
		return fmt.Sprint(a, b), ok, true
	case "need":
		return replyOf(impl.FewestToSet(desk.Set, words[1]))
	case "table":
		return listOf(impl.LeagueTable(desk.League))
	case "points":
		return listOf(impl.LeaguePoints(desk.League))
	case "open":
		return listsOf(impl.LeftResults(desk.League))
	case "first":
		return replyOf(impl.CountFirsts(desk.League, n[0]))
	case "plays":
		return replyOf(impl.CountPlaysTo(raceOf(words[1]), n[1], n[2]))
	case "chance":
		return fractionOf(impl.ChanceFirst(oddsOf(words[1]), n[1]))
	case "game":
		return fractionOf(impl.GameChance(oddsOf(words[1])))
	case "from":
		return fractionOf(impl.ChanceFrom(oddsOf(words[1]), n[1], n[2], n[3]))
	}
	return askedOfRolls(desk, words[0])
}

func askedOfRolls(desk impl.Desk, name string) (string, bool, bool) {
	switch name {
	case "scores":
		return listOf(impl.FrameScores(desk.Frames, desk.Rolls))
	case "total":
		return replyOf(impl.TotalOf(desk.Frames, desk.Rolls))
	case "most":
		return replyOf(impl.MostTotal(desk.Frames, desk.Rolls))
	case "least":
		return replyOf(impl.LeastTotal(desk.Frames, desk.Rolls))
	}
	return "", false, false
}

// checkLine holds promise 10 for a line, and returns the desk behind it.
func checkLine(t *testing.T, desk impl.Desk, line string) impl.Desk {
	t.Helper()
	want, reply := expected(desk, line)
	got, said, ok := impl.DeskLine(desk, line)
	if said != reply || !ok {
		t.Errorf("%.400q on %s: the reply is %q %v, not %q", line, deskName(desk), said, ok, reply)
	}
	if !sameDesk(got, want) || !impl.IsDesk(got) {
		t.Errorf("%.400q on %s leaves %s, not %s", line, deskName(desk), deskName(got), deskName(want))
	}
	return want
}

// checkReply names the reply to a line, and the desk behind it.
func checkReply(t *testing.T, desk impl.Desk, line, reply string, after impl.Desk) {
	t.Helper()
	if got, said, ok := impl.DeskLine(desk, line); said != reply || !sameDesk(got, after) || !ok {
		t.Errorf("%.400q on %s = %s %q %v, want %s %q", line, deskName(desk), deskName(got), said, ok, deskName(after), reply)
	}
	checkLine(t, desk, line)
}

// isFailing tells of replies.
func isFailing(reply string) bool { return reply == "no" || reply == "what" }

func isScript(s string) bool {
	return s == "" || len(s) <= 3000 && strings.Count(s, "\n") <= 50 && s[len(s)-1] == '\n'
}

// checkScript executes a script line by line.
func checkScript(t *testing.T, s string) {
	t.Helper()
	var want impl.Desk
	var replies []string
	var failing []int
	if isScript(s) {
		want = firstDesk()
		for i, line := range strings.Split(s, "\n")[:strings.Count(s, "\n")] {
			reply := ""
			want, reply = expected(want, line)
			replies = append(replies, reply)
			if isFailing(reply) {
				failing = append(failing, i+1)
			}
		}
	}
	if got, ok := impl.RunScript(s); !slices.Equal(got, replies) || ok != isScript(s) {
		t.Errorf("RunScript(%.300q) = %.300q %v, want %.300q", s, got, ok, replies)
	}
	if got, ok := impl.DeskAfter(s); !sameDesk(got, want) || ok != isScript(s) {
		t.Errorf("DeskAfter(%.300q) = %s %v, want %s", s, deskName(got), ok, deskName(want))
	}
	if got, ok := impl.FailedLines(s); !slices.Equal(got, failing) || ok != isScript(s) {
		t.Errorf("FailedLines(%.300q) = %v %v, want %v", s, got, ok, failing)
	}
}

func scriptOf(lines ...string) string {
	if len(lines) == 0 {
		return ""
	}
	return strings.Join(lines, "\n") + "\n"
}

func TestConsoleConstants(t *testing.T) {
	if impl.MaxScript != 3000 || impl.MaxLines != 50 {
		t.Error("the limits are", impl.MaxScript, impl.MaxLines)
	}
	if len(goodLines) != len(lineKinds) {
		t.Errorf("there are %d good lines of %d kinds", len(goodLines), len(lineKinds))
	}
}

func TestFirstDesk(t *testing.T) {
	for range 2 {
		got := impl.FirstDesk()
		if !sameDesk(got, firstDesk()) || !impl.IsDesk(got) {
			t.Fatal("the first desk is", deskName(got))
		}
		spoilDesk(got)
	}
}

// exampleLines are the lines of the document's example, each with its reply.
var exampleLines = [][2]string{
	{"finish 3", "t20-t20-d25"}, {"ways 3", "1"}, {"visit t20-t20-20", "30"}, {"left 41", "41"}, {"finish 3", "t13-d1"},
	{"set aaaabbbbab", "aaaabbbbab"}, {"stands", "1 1 15:15"}, {"games", "ab"}, {"breaks", "0 0"}, {"need a", "19"}, {"point a", "aaaabbbbaba"}, {"stands", "1 1 30:15"}, {"point c", "what"},
	{"bowl X3", "X3"}, {"most", "40"}, {"least", "16"}, {"roll 8", "no"}, {"roll 7", "X3/"}, {"roll 4", "X3/4"}, {"scores", "20,14"}, {"total", "34"}, {"roll 1", "no"},
	{"table", "0,2,1"}, {"points", "6,1,4"}, {"open", "1,0 2,1"}, {"first 1", "1"}, {"result 1 0 2 0", leagueExample + ",1-0=2:0"}, {"first 1", "1"}, {"result 1 0 1 1", "no"},
	{"plays 3+2 3 1", "3"}, {"chance 2/3 2", "20/27"}, {"game 1/2", "1/2"}, {"from 1/2 2 1 0", "3/4"}, {"set ", "-"}, {"stands", "0 0 0:0"}, {"fly", "what"},
}

// TestConsoleExample executes the document's example line by line, and all scripts with which it begins.
func TestConsoleExample(t *testing.T) {
	desk := firstDesk()
	var lines, replies []string
	var failing []int
	for i, x := range exampleLines {
		next, reply, ok := impl.DeskLine(desk, x[0])
		if reply != x[1] || !ok || !sameDesk(next, checkLine(t, desk, x[0])) {
			t.Errorf("line %d, %q: %s %q %v, want %q", i+1, x[0], deskName(next), reply, ok, x[1])
		}
		desk, lines, replies = next, append(lines, x[0]), append(replies, x[1])
		if isFailing(x[1]) {
			failing = append(failing, i+1)
		}
		script := scriptOf(lines...)
		checkScript(t, script)
		if got, ok := impl.RunScript(script); !slices.Equal(got, replies) || !ok {
			t.Errorf("the replies to %q are %q %v", script, got, ok)
		}
		if got, ok := impl.DeskAfter(script); !sameDesk(got, desk) || !ok {
			t.Errorf("behind %q there is %s %v", script, deskName(got), ok)
		}
	}
	if got, ok := impl.FailedLines(scriptOf(lines...)); !slices.Equal(got, []int{13, 17, 22, 29, 36}) || !slices.Equal(got, failing) || !ok {
		t.Error("FailedLines", got, ok)
	}
	if want := deskOf(41, "", 2, []int{10, 3, 7, 4}, leagueExample+",1-0=2:0"); !sameDesk(desk, want) {
		t.Error("the desk behind the example is", deskName(desk))
	}
}

// TestLinesThatChangeTheDesk names what each of these lines leaves.
func TestLinesThatChangeTheDesk(t *testing.T) {
	desk := deskOf(40, "aaaab", 2, []int{10, 3}, "2w3|0-1=1:0")
	for _, x := range []struct {
		line, reply string
		after       impl.Desk
	}{
		{"left 41", "41", deskOf(41, "aaaab", 2, []int{10, 3}, "2w3|0-1=1:0")},
		{"left 0", "0", deskOf(0, "aaaab", 2, []int{10, 3}, "2w3|0-1=1:0")},
		{"left 1001", "1001", deskOf(1001, "aaaab", 2, []int{10, 3}, "2w3|0-1=1:0")},
		{"set b", "b", deskOf(40, "b", 2, []int{10, 3}, "2w3|0-1=1:0")},
		{"set ", "-", deskOf(40, "", 2, []int{10, 3}, "2w3|0-1=1:0")},
		{"set " + won("aaaaaa"), won("aaaaaa"), deskOf(40, won("aaaaaa"), 2, []int{10, 3}, "2w3|0-1=1:0")},
		{"set " + deuces(150), deuces(150), deskOf(40, deuces(150), 2, []int{10, 3}, "2w3|0-1=1:0")},
		{"bowl 9/", "9/", deskOf(40, "aaaab", 2, []int{9, 1}, "2w3|0-1=1:0")},
		{"bowl ", "none", deskOf(40, "aaaab", 2, nil, "2w3|0-1=1:0")},
		{"bowl -", "-", deskOf(40, "aaaab", 2, []int{0}, "2w3|0-1=1:0")},
		{"bowl XXXX", "XXXX", deskOf(40, "aaaab", 2, []int{10, 10, 10, 10}, "2w3|0-1=1:0")},
		{"bowl -/-/X", "-/-/X", deskOf(40, "aaaab", 2, []int{0, 10, 0, 10, 10}, "2w3|0-1=1:0")},
		{"league 8w2|", "8w2|", deskOf(40, "aaaab", 2, []int{10, 3}, "8w2|")},
		{"league " + leagueExample, leagueExample, deskOf(40, "aaaab", 2, []int{10, 3}, leagueExample)},
		{"frames 1", "none", deskOf(40, "aaaab", 1, nil, "2w3|0-1=1:0")},
		{"frames 2", "none", deskOf(40, "aaaab", 2, nil, "2w3|0-1=1:0")},
		{"frames 10", "none", deskOf(40, "aaaab", 10, nil, "2w3|0-1=1:0")},
		{"visit 1", "39", deskOf(39, "aaaab", 2, []int{10, 3}, "2w3|0-1=1:0")},
		{"visit d20", "0", deskOf(0, "aaaab", 2, []int{10, 3}, "2w3|0-1=1:0")},
		{"visit 10-10-d10", "0", deskOf(0, "aaaab", 2, []int{10, 3}, "2w3|0-1=1:0")},
		{"visit t20", "40", desk}, {"visit 20-20", "40", desk}, {"visit 20-19", "40", desk},
		{"point a", "aaaaba", deskOf(40, "aaaaba", 2, []int{10, 3}, "2w3|0-1=1:0")},
		{"point b", "aaaabb", deskOf(40, "aaaabb", 2, []int{10, 3}, "2w3|0-1=1:0")},
		{"roll 0", "X3-", deskOf(40, "aaaab", 2, []int{10, 3, 0}, "2w3|0-1=1:0")},
		{"roll 7", "X3/", deskOf(40, "aaaab", 2, []int{10, 3, 7}, "2w3|0-1=1:0")},
		{"result 1 0 20 0", "2w3|0-1=1:0,1-0=20:0", deskOf(40, "aaaab", 2, []int{10, 3}, "2w3|0-1=1:0,1-0=20:0")},
		{"result 1 0 3 4", "2w3|0-1=1:0,1-0=3:4", deskOf(40, "aaaab", 2, []int{10, 3}, "2w3|0-1=1:0,1-0=3:4")},
	} {
		checkReply(t, desk, x.line, x.reply, x.after)
	}
}

// TestReplies names the replies to the lines that only ask, on desks of each sort.
func TestReplies(t *testing.T) {
	first := firstDesk()
	ended := deskOf(0, won("aaaaaa"), 1, []int{10, 10, 10}, "2w3|0-1=2:2,1-0=0:1")
	other := deskOf(2, won("abababababab")+"bbbbbbb", 10, timesOver(20, 0), "2w2|")
	tie := deskOf(100, won("abababababab")+"aab", 3, []int{10}, "4w3|")
	deuce := deskOf(1, "bbbb"+deuces(3)+"b", 2, []int{0, 10, 5, 0}, "3w2|0-1=0:1,1-2=0:1,2-0=0:1,1-0=1:0,2-1=1:0")
	for _, x := range []struct {
		desk        impl.Desk
		line, reply string
	}{
		{first, "finish 3", "t20-t20-d25"}, {other, "finish 1", "d1"}, {other, "finish 3", "d1"}, {tie, "finish 2", "t20-d20"}, {tie, "finish 3", "t20-d20"},
		{first, "ways 1", "0"}, {first, "ways 3", "1"}, {other, "ways 1", "1"}, {other, "ways 2", "0"}, {ended, "ways 3", "0"}, {deuce, "ways 3", "0"},
		{first, "stands", "0 0 0:0"}, {ended, "stands", "6 0"}, {other, "stands", "6 7"}, {tie, "stands", "6 6 2:1"}, {deuce, "stands", "0 1 B"},
		{first, "games", "-"}, {ended, "games", "aaaaaa"}, {other, "games", "ababababababb"}, {tie, "games", "abababababab"}, {deuce, "games", "b"},
		{first, "breaks", "0 0"}, {ended, "breaks", "3 0"}, {other, "breaks", "0 0"}, {deuce, "breaks", "0 1"},
		{first, "need a", "24"}, {first, "need b", "24"}, {ended, "need a", "0"}, {other, "need b", "0"}, {tie, "need a", "5"}, {tie, "need b", "6"}, {deuce, "need b", "17"},
		{first, "scores", "-"}, {ended, "scores", "30"}, {other, "scores", "0,0,0,0,0,0,0,0,0,0"}, {tie, "scores", "-"}, {deuce, "scores", "15,5"},
		{ended, "total", "30"}, {other, "total", "0"}, {deuce, "total", "20"},
		{first, "most", "60"}, {ended, "most", "30"}, {other, "most", "0"}, {tie, "most", "90"},
		{first, "least", "0"}, {ended, "least", "30"}, {other, "least", "0"}, {tie, "least", "10"},
		{first, "table", "0,2,1"}, {ended, "table", "0,1"}, {other, "table", "0,1"}, {tie, "table", "0,1,2,3"}, {deuce, "table", "2,1,0"},
		{first, "points", "6,1,4"}, {ended, "points", "4,1"}, {other, "points", "0,0"}, {tie, "points", "0,0,0,0"}, {deuce, "points", "2,4,4"},
		{first, "open", "1,0 2,1"}, {ended, "open", "-"}, {other, "open", "0,1 1,0"}, {tie, "open", "0,1 0,2 0,3 1,0 1,2 1,3 2,0 2,1 2,3 3,0 3,1 3,2"}, {deuce, "open", "0,2"},
		{first, "first 0", "7"}, {first, "first 2", "2"}, {ended, "first 0", "1"}, {ended, "first 1", "0"}, {other, "first 1", "6"},
		{first, "plays 3+2 3 1", "3"}, {first, "plays 3+2 4 2", "6"}, {first, "plays 3+2 4 1", "0"}, {first, "plays 1+1 0 0", "1"}, {first, "plays 30+5 0 30", "1"},
		{first, "chance 2/3 2", "20/27"}, {first, "chance 0/1 6", "0/1"}, {first, "chance 10/10 1", "1/1"}, {first, "chance 2/4 1", "1/2"},
		{first, "game 1/2", "1/2"}, {first, "game 0/7", "0/1"}, {first, "game 3/3", "1/1"}, {first, "game 2/3", "208/243"},
		{first, "from 1/2 2 1 0", "3/4"}, {first, "from 2/3 2 0 1", "4/9"}, {first, "from 0/5 6 5 0", "0/1"}, {first, "from 1/1 6 0 5", "1/1"}, {first, "from 1/2 2 1 1", "1/2"},
	} {
		checkReply(t, x.desk, x.line, x.reply, x.desk)
	}
}

// TestLinesThatFail names lines with the right words that cannot be done: nothing changes.
func TestLinesThatFail(t *testing.T) {
	first := firstDesk()
	ended := deskOf(0, won("aaaaaa"), 1, []int{10, 10, 10}, "2w3|0-1=2:2,1-0=0:1")
	full := deskOf(1, deuces(150), 10, timesOver(12, 10), "4w3|0-1=1:1")
	begun := deskOf(40, won("bbbbbb"), 2, []int{10, 3}, "3w2|0-1=1:1")
	for _, x := range []struct {
		desk  impl.Desk
		lines []string
	}{
		{first, []string{
			"left 1002", "left 1003", "left 10000", "left 999999", "frames 0", "frames 11", "frames 999999", "visit 1-1-1-1", "visit 1-2-3-4-5-6-7-8-9", "roll 11", "roll 999999",
			"result 0 1 0 0", "result 1 1 0 0", "result 3 0 0 0", "result 0 3 0 0", "result 1 0 21 0", "result 1 0 0 21", "result 999999 0 0 0", "result 1 999999 0 0", "result 1 0 999999 0", "result 1 0 0 999999",
			"finish 0", "finish 1", "finish 2", "finish 4", "finish 999999", "ways 0", "ways 4", "ways 999999", "total", "first 3", "first 999999",
			"plays 30+1 101 0", "plays 30+1 50 51", "plays 30+5 50 50", "plays 1+1 999999 999999", "plays 3+2 0 999999", "chance 1/2 0", "chance 1/2 7", "chance 0/1 999999",
			"from 1/2 0 0 0", "from 1/2 7 0 0", "from 1/2 2 2 0", "from 1/2 2 0 2", "from 1/2 999999 0 0", "from 1/2 2 999999 0", "from 1/2 2 0 999999",
		}},
		{ended, []string{"visit 1", "visit d1", "point a", "point b", "roll 0", "roll 10", "result 0 1 0 0", "result 1 0 2 2", "finish 3", "need b", "first 2"}},
		{full, []string{"visit d1-1", "visit 1-1-1", "visit d20-d20", "point a", "point b", "roll 0", "finish 3", "first 0", "first 3"}},
		{begun, []string{"visit d20-1", "visit t20-1", "visit 20-20-1", "visit 1-20-19-1", "point b", "roll 8", "roll 10", "need a", "total", "result 0 1 2 2", "frames 0"}},
	} {
		for _, line := range x.lines {
			checkReply(t, x.desk, line, "no", x.desk)
		}
	}
}

// wordsThatAreNone are texts that are none of each kind, behind a # in the place of one that is.
var wordsThatAreNone = []struct {
	lines []string
	words []string
}{
	{
		[]string{"left #", "frames #", "roll #", "finish #", "ways #", "first #", "result # 0 2 0", "result 1 # 2 0", "result 1 0 # 0", "result 1 0 2 #", "plays 3+2 # 1", "plays 3+2 3 #", "chance 2/3 #", "from 1/2 # 1 0", "from 1/2 2 # 0", "from 1/2 2 1 #"},
		[]string{"", "00", "01", "007", "02", "0000001", "+1", "-1", "-0", "+0", "--1", "1000000", "1000001", "9999999", "01000000", "18446744073709551617", "9223372036854775807", "9223372036854775808", "-9223372036854775808", "99999999999999999999", "1.0", "1e0", "0x1", "1_0", "1,0", "a", "N", "x", "\x00", "1\x00", "1\t", "\t1", "1\r", "１", "٣", "\xff", "1\xff", "½", "∞", strings.Repeat("0", 2000) + "1"},
	},
	{
		[]string{"point #", "need #"},
		[]string{"", "c", "A", "B", "aa", "ab", "ba", "bb", "-", "0", "1", "S", "á", "а", "a\t", "a\r", "\x00", "a\x00", "\xff"},
	},
	{
		[]string{"visit #"},
		[]string{"", "-", "d", "t", "0", "d0", "t0", "21", "t25", "d26", "50", "01", "d01", "D20", "T20", "20-", "-20", "20--20", "20,20", "20-21", "21-20", "d20\r", "t 20", "1-2-3-4-5-6-7-8-9-10", "１", "\xff", "none", strings.Repeat("1-", 1000) + "1"},
	},
	{
		[]string{"set #"},
		[]string{"c", "A", "-", "none", "a,b", "abc", "aaaabbbbab\r", "\xff", won("aaaaaa") + "a", won("bbbbbb") + "a", deuces(150) + "a", deuces(151), deuces(1000)},
	},
	{
		[]string{"bowl #"},
		[]string{"none", "x", "/", "10", "X/", "37", "55", "--/", "3/X/", "XXXXX", "3456X", "X3/4-", "X,3", "X3\r", "Ⅹ", "\xff", "0", strings.Repeat("X", 1000)},
	},
	{
		[]string{"league #"},
		[]string{"", "-", "|", "3w3", "1w3|", "9w3|", "3w1|", "3w4|", "03w3|", "3w3|,", "3w3|0-0=1:1", "3w3|0-3=1:1", "3w3|0-1=21:1", "3w3|0-1=1:21", "3w3|0-1=01:1", "3w3|0-1=1:1,0-1=1:1", "3w3|0-1=1:1,", "3W3|", "3w3|\r", "\xff", leagueExample + ",", "3w3|" + strings.Repeat("0-1=1:1,", 300)},
	},
	{
		[]string{"plays # 3 1"},
		[]string{"", "+", "3", "3+", "+2", "0+2", "31+2", "3+0", "3+6", "03+2", "3+02", "3-2", "3+2+", "+3+2", "3+2\r", "３+2", "\xff"},
	},
	{
		[]string{"chance # 2", "game #", "from # 2 1 0"},
		[]string{"", "/", "1", "1/", "/2", "1/0", "0/0", "3/2", "1/11", "11/11", "-1/2", "1/-2", "01/2", "1/02", "1:2", "1/2/", "1/2\r", "½", "0.5", "\xff"},
	},
}

// TestWordsThatAreNone holds that a word that is no number, side or text of its kind makes the reply what, whatever the calls would say of it.
func TestWordsThatAreNone(t *testing.T) {
	for _, desk := range []impl.Desk{firstDesk(), deskOf(0, won("aaaaaa"), 2, []int{10, 3, 7, 4}, "2w3|0-1=2:2,1-0=0:1")} {
		for _, x := range wordsThatAreNone {
			for _, line := range x.lines {
				for _, word := range x.words {
					checkReply(t, desk, strings.Replace(line, "#", word, 1), "what", desk)
				}
			}
		}
	}
}

// TestNumbersInLines puts numbers into each place that there is for one.
func TestNumbersInLines(t *testing.T) {
	numbers := []string{"999998", "999999", "1000000", "100000", "99999", "301", "300", "101", "100", "1001", "1002"}
	for n := range 25 {
		numbers = append(numbers, strconv.Itoa(n), "0"+strconv.Itoa(n), "+"+strconv.Itoa(n), "-"+strconv.Itoa(n), strconv.Itoa(n)+"0")
	}
	for _, desk := range someDesks() {
		for _, line := range wordsThatAreNone[0].lines {
			for _, number := range numbers {
				checkLine(t, desk, strings.Replace(line, "#", number, 1))
			}
		}
	}
	for _, line := range wordsThatAreNone[0].lines {
		for _, number := range []string{"0", "1", "999999"} {
			if got, said, ok := impl.DeskLine(firstDesk(), strings.Replace(line, "#", number, 1)); said == "what" || said == "" || !ok {
				t.Errorf("%q with %s = %s %q %v", line, number, deskName(got), said, ok)
			}
		}
	}
}

// someDesks are desks of each sort.
func someDesks() []impl.Desk {
	return []impl.Desk{
		firstDesk(),
		deskOf(40, "aaaabbbbab", 2, []int{10, 3}, "2w3|0-1=1:0"),
		deskOf(0, won("aaaaaa"), 1, []int{10, 10, 10}, "2w3|0-1=2:2,1-0=0:1"),
		deskOf(1, won("abababababab")+"bbbbbbb", 10, timesOver(12, 10), "2w2|"),
		deskOf(1001, won("abababababab")+deuces(7)+"b", 10, timesOver(20, 0), "8w3|"),
		deskOf(2, deuces(150), 10, timesOver(11, 10), "4w2|0-1=0:0,1-0=20:20,2-3=1:0,3-2=0:1,0-2=3:3"),
		deskOf(501, won("bbbbb"), 3, []int{10, 0, 10, 9, 1}, "4w3|3-0=0:5"),
	}
}

// TestTooManyAndTooFewWords takes words away from each line, and puts some in.
func TestTooManyAndTooFewWords(t *testing.T) {
	for _, desk := range someDesks()[:2] {
		for _, line := range goodLines {
			words := strings.Split(line, " ")
			for many := range words {
				checkReply(t, desk, strings.Join(words[:many], " "), "what", desk)
				checkReply(t, desk, strings.Join(words[many+1:], " "), "what", desk)
			}
			for _, word := range []string{"", "0", "1", "a", "stands", "1/2", "\t", words[len(words)-1]} {
				for place := range words {
					checkReply(t, desk, strings.Join(slices.Insert(slices.Clone(words), place, word), " "), "what", desk)
				}
				checkReply(t, desk, line+" "+word, "what", desk)
			}
			for _, other := range []string{strings.ToUpper(line), line + "\t", line + "\r", "\t" + line, line + "\x00", line + ";", strings.ReplaceAll(line, " ", "  ") + " ", strings.ReplaceAll(line, " ", "\t") + "\t", strings.ReplaceAll(line, " ", "\u00a0") + "\u00a0"} {
				checkReply(t, desk, other, "what", desk)
			}
		}
	}
	for _, line := range []string{"", " ", "  ", "   ", "set", "bowl", "set  ", "bowl  ", " set ", " bowl ", "set a ", "bowl X ", "set  a", "bowl  X", "league ", "left ", "visit ", "point ", "no", "what", "none", "-", "fly", "N", "left N", "Stands", "stand", "standss", "finish", "result", "result 1 0", "help", "quit", "0", "\x00", "\xff", "é"} {
		for _, desk := range someDesks() {
			checkReply(t, desk, line, "what", desk)
		}
	}
}

// TestSpoiledLines takes letters out of each line, puts others in, and exchanges them.
func TestSpoiledLines(t *testing.T) {
	for _, desk := range someDesks()[:3] {
		for _, line := range append(goodLines, "set ", "bowl ", "league 3w2|0-1=1:1,1-0=2:0") {
			spoilText(line, "019abdtX-/+|, \t\r\x00", func(line string) { checkLine(t, desk, line) })
		}
	}
}

// TestAllLines executes each line on desks of each sort.
func TestAllLines(t *testing.T) {
	done := map[string]bool{}
	for _, desk := range someDesks() {
		for _, line := range goodLines {
			checkLine(t, desk, line)
			_, reply, _ := impl.DeskLine(desk, line)
			done[line] = done[line] || !isFailing(reply)
		}
		for _, side := range []string{"a", "b"} {
			checkLine(t, desk, "need "+side)
			checkLine(t, desk, "point "+side)
		}
		for _, o := range everyOdds() {
			checkLine(t, desk, "game "+textOfOdds(o))
			checkLine(t, desk, "chance "+textOfOdds(o)+" 6")
			checkLine(t, desk, "from "+textOfOdds(o)+" 6 5 4")
		}
		for _, x := range everyDart() {
			text, _ := impl.DartText(x)
			checkLine(t, desk, "visit "+text)
		}
	}
	for _, line := range goodLines {
		if !done[line] {
			t.Errorf("%q is done on none of the desks", line)
		}
	}
}

// TestLegsSetsAndGames goes on with the desk that is left, to the end of a leg, a set, a game and a league.
func TestLegsSetsAndGames(t *testing.T) {
	desk := firstDesk()
	for _, line := range []string{"left 501", "visit t20-t20-t20", "visit t20-t20-t20", "finish 3", "visit t20-t19-d20", "finish 3", "visit t20-t19-d12", "finish 3", "visit 1", "left 2", "visit d1"} {
		desk = checkLine(t, desk, line)
	}
	if desk.Left != 0 {
		t.Error("the leg has not ended:", desk.Left)
	}
	for _, side := range won("aaaaabbbbb") + "aaaabbbb" + deuces(6) + "aaa" {
		for _, line := range []string{"point " + string(side), "stands", "games", "breaks", "need a", "need b"} {
			desk = checkLine(t, desk, line)
		}
	}
	if set, _ := impl.SetWinner(desk.Set); set != "a" {
		t.Error("the set has not ended:", desk.Set)
	}
	desk = checkLine(t, desk, "frames 10")
	for range 13 {
		for _, line := range []string{"roll 10", "scores", "total", "most", "least"} {
			desk = checkLine(t, desk, line)
		}
	}
	desk = checkLine(t, desk, "league 4w3|")
	for _, pair := range append(pairings(4), []int{0, 1}) {
		desk = checkLine(t, desk, fmt.Sprintf("result %d %d %d 1", pair[0], pair[1], pair[0]))
		for _, line := range []string{"table", "points", "open", "first 0", "first 1", "first 2", "first 3"} {
			desk = checkLine(t, desk, line)
		}
	}
	want := deskOf(0, desk.Set, 10, timesOver(12, 10), "4w3|0-1=0:1,0-2=0:1,0-3=0:1,1-0=1:1,1-2=1:1,1-3=1:1,2-0=2:1,2-1=2:1,2-3=2:1,3-0=3:1,3-1=3:1,3-2=3:1")
	if !sameDesk(desk, want) {
		t.Error("behind all lines there is", deskName(desk))
	}
}

// TestLinesAtTheirLimit holds what DeskLine requires of lines.
func TestLinesAtTheirLimit(t *testing.T) {
	desk := deskOf(40, "ab", 3, []int{5}, "2w3|0-1=1:0")
	for _, line := range []string{strings.Repeat("x", 3000), strings.Repeat(" ", 3000), "left " + strings.Repeat("0", 2995), "set " + strings.Repeat("a", 2996), "stands" + strings.Repeat(" ", 2994)} {
		if len(line) != 3000 {
			t.Errorf("a line has %d bytes", len(line))
		}
		checkReply(t, desk, line, "what", desk)
		checkReply(t, desk, line[1:], "what", desk)
	}
	for _, line := range []string{
		strings.Repeat("x", 3001), strings.Repeat(" ", 3001), strings.Repeat("stands ", 1<<18), "stands" + strings.Repeat(" ", 2995), strings.Repeat("\x00", 1<<20),
		"\n", "stands\n", "\nstands", "left 41\n", "left\n41", "stands\nstands", "stands\r\n", "set \n", "set a\n", "x\n", "\n\n", strings.Repeat("x", 2999) + "\n",
	} {
		if got, said, ok := impl.DeskLine(desk, line); !isNoDesk(got) || said != "" || ok {
			t.Errorf("DeskLine of %.60q, %d bytes = %s %q %v", line, len(line), deskName(got), said, ok)
		}
	}
}

// longScript has just so many bytes, in so many lines: all but the first one are of two bytes.
func longScript(bytes, lines int) string {
	return strings.Repeat("x", bytes-2*(lines-1)-1) + "\n" + strings.Repeat("-\n", lines-1)
}

// TestScriptsAtTheirLimits holds what is a script.
func TestScriptsAtTheirLimits(t *testing.T) {
	for _, x := range []struct {
		script string
		fine   bool
	}{
		{"", true}, {"\n", true}, {"\n\n", true}, {"stands\n", true}, {"stands", false}, {"stands\nstands", false}, {"\nx", false}, {"x", false}, {" ", false}, {"\r", false}, {"\r\n", true}, {"stands\n ", false}, {"\x00", false}, {"\x00\n", true}, {"\xff\n", true},
		{strings.Repeat("\n", 50), true}, {strings.Repeat("\n", 51), false}, {strings.Repeat("stands\n", 50), true}, {strings.Repeat("stands\n", 51), false}, {strings.Repeat("stands\n", 49) + "stands", false}, {strings.Repeat("stands\n", 50) + "stands", false},
		{longScript(3000, 1), true}, {longScript(3001, 1), false}, {longScript(3000, 50), true}, {longScript(3001, 50), false}, {longScript(3000, 51), false}, {longScript(2999, 50), true}, {longScript(3000, 1)[1:], true},
		{strings.Repeat("x", 3000), false}, {strings.Repeat("x", 3001), false}, {strings.Repeat("\n", 3000), false}, {strings.Repeat("\n", 1<<20), false}, {strings.Repeat("x", 1<<20) + "\n", false}, {strings.Repeat("stands\n", 1<<16), false},
		{scriptOf(slices.Repeat([]string{"point a"}, 50)...), true}, {scriptOf(slices.Repeat([]string{"point a"}, 24)...) + scriptOf(slices.Repeat([]string{"point a"}, 27)...), false},
	} {
		if isScript(x.script) != x.fine {
			t.Errorf("isScript(%.60q) = %v", x.script, !x.fine)
		}
		if _, ok := impl.RunScript(x.script); ok != x.fine {
			t.Errorf("RunScript(%.60q), %d bytes: %v", x.script, len(x.script), ok)
		}
		checkScript(t, x.script)
	}
	if got, ok := impl.RunScript(""); len(got) != 0 || !ok {
		t.Error("RunScript of no lines", got, ok)
	}
	if got, ok := impl.DeskAfter(""); !sameDesk(got, firstDesk()) || !ok {
		t.Error("DeskAfter of no lines", deskName(got), ok)
	}
	if got, ok := impl.FailedLines(""); len(got) != 0 || !ok {
		t.Error("FailedLines of no lines", got, ok)
	}
}

// TestFailedLines names which lines fail: not those whose reply only looks like nothing.
func TestFailedLines(t *testing.T) {
	for _, x := range []struct {
		lines []string
		want  []int
	}{
		{[]string{"set ", "bowl ", "games", "scores", "frames 2", "visit t20-t20-t20"}, nil},
		{[]string{"total", "stands", "", "fly", "open", "roll 11"}, []int{1, 3, 4, 6}},
		{[]string{"no", "what", "none"}, []int{1, 2, 3}},
		{slices.Repeat([]string{"point a"}, 26), []int{25, 26}},
		{slices.Repeat([]string{""}, 50), []int{1, 2, 3, 4, 5, 6, 7, 8, 9, 10, 11, 12, 13, 14, 15, 16, 17, 18, 19, 20, 21, 22, 23, 24, 25, 26, 27, 28, 29, 30, 31, 32, 33, 34, 35, 36, 37, 38, 39, 40, 41, 42, 43, 44, 45, 46, 47, 48, 49, 50}},
	} {
		if got, ok := impl.FailedLines(scriptOf(x.lines...)); !slices.Equal(got, x.want) || !ok {
			t.Errorf("FailedLines(%q) = %v %v", x.lines, got, ok)
		}
		checkScript(t, scriptOf(x.lines...))
	}
}

// TestShortScripts executes all texts of a few letters.
func TestShortScripts(t *testing.T) {
	for _, text := range everyText("x \n", 7) {
		checkScript(t, text)
	}
	for _, text := range everyText("sS1\n", 4) {
		checkScript(t, strings.NewReplacer("S", "stands\n", "s", "point a\n", "1", "roll 1\n").Replace(text))
	}
}

// randomWord returns a word of a kind, or, seldom, one that is none.
func randomWord(r *rand.Rand, kind rune, frames int) string {
	if r.Intn(40) == 0 {
		return []string{"", "0", "00", "a", "1000000", "-", "1/2", "3+2", "d", "X", "\xff"}[r.Intn(11)]
	}
	switch kind {
	case 'N':
		bounds := []int{3, 4, 4, 6, 11, 200, 1002, 1000000}
		return strconv.Itoa(r.Intn(bounds[r.Intn(8)*r.Intn(8)/7])) // The product makes the greater bounds seldom.
	case 'S':
		return "ab"[r.Intn(2):][:1]
	case 'D':
		var texts []string
		for range 1 + r.Intn(4) {
			text, _ := impl.DartText(everyDart()[r.Intn(62)])
			texts = append(texts, text)
		}
		return strings.Join(texts, "-")
	case 'P':
		return randomSet(r).points
	case 'T':
		rolls := randomRolls(r, frames)
		_, text, _ := cardOf(frames, rolls[:r.Intn(len(rolls)+1)])
		return text
	case 'L':
		teams := 2 + r.Intn(3)
		return leagueName(randomLeague(r, teams, r.Intn(teams*(teams-1)+1), 4))
	case 'R':
		return textOfRace(race(1+r.Intn(6), 1+r.Intn(3)))
	}
	return textOfOdds(everyOdds()[r.Intn(65)])
}

func randomLine(r *rand.Rand, frames int) string {
	words := []string{strings.Fields(goodLines[r.Intn(len(goodLines))])[0]}
	for _, kind := range lineKinds[words[0]] {
		words = append(words, randomWord(r, kind, frames))
	}
	if r.Intn(40) == 0 {
		words = words[r.Intn(2):]
	}
	return strings.Join(words, " ")
}

func TestRandomScripts(t *testing.T) {
	r := rand.New(rand.NewSource(10))
	replies := map[string]int{}
	tooLong := 0
	for range 1500 {
		desk := firstDesk()
		script := ""
		for range r.Intn(52) {
			line := randomLine(r, desk.Frames)
			var reply string
			desk, reply = expected(desk, line)
			script += line + "\n"
			if isFailing(reply) {
				line = reply
			}
			replies[strings.Fields(line + " ?")[0]]++
		}
		if !isScript(script) {
			tooLong++
		}
		checkScript(t, script)
	}
	for name := range lineKinds {
		if replies[name] < 100 {
			t.Errorf("%s was done %d times", name, replies[name])
		}
	}
	if replies["no"] < 1000 || replies["what"] < 1000 || tooLong < 20 {
		t.Errorf("%d no, %d what, %d scripts that are none", replies["no"], replies["what"], tooLong)
	}
}

// TestRandomLines executes lines one behind the other, also those that would be too many for a script.
func TestRandomLines(t *testing.T) {
	r := rand.New(rand.NewSource(1010))
	for range 60 {
		desk := someDesks()[r.Intn(len(someDesks()))]
		for range 200 {
			desk = checkLine(t, desk, randomLine(r, desk.Frames))
		}
	}
}

// wildDesks are desks that are none, by each of their fields.
func wildDesks() []impl.Desk {
	all := []impl.Desk{{}, {Left: 170}, {Frames: 2}, {League: readLeague(leagueExample)}, {Left: 170, Frames: 2}, {Left: 170, League: readLeague(leagueExample)}}
	with := func(change func(d *impl.Desk)) {
		d := firstDesk()
		change(&d)
		all = append(all, d)
	}
	for _, n := range append([]int{10, 11, 1000, 1 << 32, 1<<32 + 2}, wildInts...) {
		with(func(d *impl.Desk) { d.Left = n })
		with(func(d *impl.Desk) { d.Frames = n })
		with(func(d *impl.Desk) { d.Frames, d.Rolls = n, []int{3} })
		with(func(d *impl.Desk) { d.Rolls = []int{n} })
		with(func(d *impl.Desk) { d.Rolls = []int{10, 3, n} })
		with(func(d *impl.Desk) { d.Rolls = []int{10, 3, 7, 4, n} })
	}
	for _, set := range append(noPoints(), won("aaaaaa")+"a", won("bbbbbb")+"b", won("abababababab")+"aaaaaaab", deuces(150)+"a") {
		with(func(d *impl.Desk) { d.Set = set })
	}
	with(func(d *impl.Desk) { d.Rolls = timesOver(1<<20, 10) })
	with(func(d *impl.Desk) { d.Frames, d.Rolls = 10, timesOver(21, 0) })
	with(func(d *impl.Desk) { d.Frames, d.Rolls = 1, []int{10, 3, 7, 4} })
	for _, l := range wildLeagues() {
		with(func(d *impl.Desk) { d.League = l })
	}
	return slices.DeleteFunc(all, isDesk)
}

// TestIsDesk holds which desks there are.
func TestIsDesk(t *testing.T) {
	for _, d := range someDesks() {
		if !isDesk(d) || !impl.IsDesk(d) {
			t.Errorf("IsDesk(%s) = %v", deskName(d), impl.IsDesk(d))
		}
	}
	for left := -2; left <= 1003; left++ {
		d := firstDesk()
		d.Left = left
		if impl.IsDesk(d) != (left >= 0 && left <= 1001) {
			t.Errorf("IsDesk with %d left", left)
		}
	}
	for frames := -1; frames <= 12; frames++ {
		for _, rolls := range [][]int{nil, {}, {10, 3}, {10, 3, 7, 4}, {1, 2, 3}, {1, 2, 3, 4, 5}, {3, 8}, timesOver(12, 10), timesOver(20, 0), timesOver(21, 5)} {
			for _, set := range []string{"", "ab", "ac", won("aaaaaa"), won("aaaaaa") + "a"} {
				d := deskOf(40, set, frames, rolls, leagueExample)
				if impl.IsDesk(d) != isDesk(d) {
					t.Errorf("IsDesk(%s) = %v", deskName(d), !isDesk(d))
				}
			}
		}
	}
}

// TestWildDesks holds promise 11: on what is no desk no line is executed, and all results are zero.
func TestWildDesks(t *testing.T) {
	all := wildDesks()
	if len(all) < 1000 {
		t.Errorf("there are only %d", len(all))
	}
	for _, d := range all {
		if impl.IsDesk(d) {
			t.Errorf("%s is a desk", deskName(d))
		}
		for _, line := range append(goodLines, "", "fly", "left 41\n", "set ", "left 1002") {
			if got, said, ok := impl.DeskLine(d, line); !isNoDesk(got) || said != "" || ok {
				t.Errorf("DeskLine(%s, %q) = %s %q %v", deskName(d), line, deskName(got), said, ok)
			}
		}
	}
}

// spoilDesk writes into what is on a desk, and into the room behind it.
func spoilDesk(d impl.Desk) {
	spoil(d.Rolls)
	spoilResults(d.League)
}

// roomyDesk returns a desk with room behind its lists, in which something stands, and those lists with this room.
func roomyDesk(d impl.Desk, pins []int, results []impl.Result) (impl.Desk, []int, []impl.Result) {
	rolls, whole := slices.Concat(d.Rolls, pins), slices.Concat(d.League.Results, results)
	d.Rolls, d.League.Results = rolls[:len(d.Rolls)], whole[:len(d.League.Results)]
	return d, rolls, whole
}

// TestDesksAreKept holds promise 11: no line writes into a desk that is given, or into the room behind it, or reads what stands there, and the desk that is returned shares no memory with it.
func TestDesksAreKept(t *testing.T) {
	lines := append(goodLines, "", "fly", "set ", "bowl ", "left 1002", "roll 0", "roll 11", "result 0 0 0 0", "result 0 1 2 2", "frames 11", "left 1\n", strings.Repeat("x", 3001))
	rooms := []struct {
		pins    []int
		results []impl.Result
	}{
		{[]int{7, 4, 0, 0}, []impl.Result{{Home: 1, Away: 0, HomeGoals: 2}, {Home: 0, Away: 1}}},
		{[]int{-5, 99}, []impl.Result{{Home: -5, Away: 99}, {}, {}}},
	}
	for _, d := range append(someDesks(), deskOf(5, "", 2, []int{}, "2w3|"), deskOf(-1, "", 2, []int{3}, leagueExample), deskOf(5, "", 1, []int{10, 3, 8}, leagueExample)) {
		for _, room := range rooms {
			with, rolls, results := roomyDesk(d, room.pins, room.results)
			keptRolls, keptResults := slices.Clone(rolls), slices.Clone(results)
			if impl.IsDesk(with) != isDesk(d) {
				t.Errorf("IsDesk(%s) = %v", deskName(with), !isDesk(d))
			}
			for _, line := range lines {
				first, _, _ := impl.DeskLine(with, line)
				second, reply, ok := impl.DeskLine(with, line)
				spoilDesk(first)
				if !slices.Equal(rolls, keptRolls) || !slices.Equal(results, keptResults) {
					t.Fatalf("%.60q: the rolls are %v, not %v, the results %v, not %v", line, rolls, keptRolls, results, keptResults)
				}
				want, said := expected(d, line)
				if !isDesk(d) || len(line) > 3000 || strings.Contains(line, "\n") {
					want, said = impl.Desk{}, ""
				}
				if !sameDesk(second, want) || reply != said || ok != (said != "") {
					t.Errorf("%.60q on %s = %s %q %v, want %s %q", line, deskName(with), deskName(second), reply, ok, deskName(want), said)
				}
			}
		}
	}
}

// TestConsoleResultsAreNew holds that no results share memory with those of other calls.
func TestConsoleResultsAreNew(t *testing.T) {
	script := scriptOf("bowl X3", "roll 7", "result 1 0 2 0", "fly", "roll 10", "roll 11", "stands")
	for range 2 {
		checkScript(t, script)
		checkScript(t, "")
		for _, s := range []string{script, "", "bowl X3\n", "fly\n", "league 2w3|0-1=1:1\n"} {
			after, _ := impl.DeskAfter(s)
			again, _ := impl.DeskAfter(s)
			want, _, _ := roomyDesk(again, nil, nil)
			spoilDesk(after)
			if !sameDesk(again, want) {
				t.Errorf("the desks behind %q share memory", s)
			}
		}
		replies, _ := impl.RunScript(script)
		clear(replies[:cap(replies)])
		failed, _ := impl.FailedLines(script)
		spoil(failed)
	}
}

// TestConsoleAtOnce holds that calls at the same time do not disturb each other.
func TestConsoleAtOnce(t *testing.T) {
	shared := deskOf(40, "aaaabbbbab", 3, []int{10, 3}, leagueExample)
	var callers sync.WaitGroup
	for i := range 8 {
		callers.Go(func() {
			for range 5 {
				checkScript(t, scriptOf("left "+strconv.Itoa(i+2), "finish 3", "visit d1", "roll "+strconv.Itoa(i), "scores", "result 1 0 "+strconv.Itoa(i)+" 0", "points", "point a", "fly"))
				for _, line := range goodLines {
					checkLine(t, shared, line)
				}
			}
		})
	}
	callers.Wait()
}
