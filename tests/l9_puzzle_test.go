package tests

import (
	"math"
	"math/rand"
	"regexp"
	"slices"
	"strconv"
	"strings"
	"sync"
	"testing"

	"loop.example/g01368/impl"
)

const puzzleExample = "4p3.0.3,0.0.3,1.0.0"

func clue(kind, a, b int) impl.Clue { return impl.Clue{Kind: kind, A: a, B: b} }

// puzzle reads a puzzle without the program's parser.
func puzzle(text string) impl.Puzzle {
	points, rest, _ := strings.Cut(text, "p")
	p := impl.Puzzle{Points: numberOf(points)}
	for _, part := range strings.FieldsFunc(rest, func(r rune) bool { return r == ',' }) {
		numbers := strings.Split(part, ".")
		p.Clues = append(p.Clues, clue(numberOf(numbers[0]), numberOf(numbers[1]), numberOf(numbers[2])))
	}
	return p
}

func numberOf(text string) int {
	n, err := strconv.Atoi(text)
	if err != nil {
		panic(err)
	}
	return n
}

func textOfPuzzle(p impl.Puzzle) string {
	var texts []string
	for _, c := range p.Clues {
		texts = append(texts, strconv.Itoa(c.Kind)+"."+strconv.Itoa(c.A)+"."+strconv.Itoa(c.B))
	}
	return strconv.Itoa(p.Points) + "p" + strings.Join(texts, ",")
}

func samePuzzle(p, q impl.Puzzle) bool { return p.Points == q.Points && slices.Equal(p.Clues, q.Clues) }

func isNoPuzzle(p impl.Puzzle) bool { return p.Points == 0 && len(p.Clues) == 0 }

// isClueOf tells which clues there are, straight from the document.
func isClueOf(points int, c impl.Clue) bool {
	within := func(n, least, most int) bool { return n >= least && n <= most }
	if !within(points, 1, 8) {
		return false
	}
	switch c.Kind {
	case 0, 3, 5:
		return c.A == 0 && within(c.B, 0, 8)
	case 1:
		return within(c.A, 0, points-1) && within(c.B, 0, 1)
	case 2:
		return within(c.A, 1, 8) && within(c.B, 0, 3)
	case 4:
		return within(c.A, 1, 8) && within(c.B, 0, 8)
	}
	return false
}

func isPuzzle(p impl.Puzzle) bool {
	return p.Points >= 1 && p.Points <= 8 && len(p.Clues) <= 6 && !slices.ContainsFunc(p.Clues, func(c impl.Clue) bool { return !isClueOf(p.Points, c) })
}

func everyClue(points int) []impl.Clue {
	var all []impl.Clue
	for kind := range 6 {
		for a := range 9 {
			for b := range 9 {
				if c := clue(kind, a, b); isClueOf(points, c) {
					all = append(all, c)
				}
			}
		}
	}
	return all
}

func isHidden(text string) bool {
	return len(text) >= 1 && len(text) <= 8 && strings.Trim(text, "ab") == ""
}

// hidden returns all hidden points, so many, in the order of texts.
func hidden(points int) []string {
	return slices.DeleteFunc(everyText("ab", points), func(text string) bool { return len(text) != points })
}

// raceBehind walks through points until there is one behind the end of a race.
func raceBehind(to int, play string) int {
	r := race(to, 1)
	for i := range play {
		if wonBehind(r, play[:i]) != "" {
			return 3
		}
	}
	return map[string]int{"": 0, "a": 1, "b": 2}[wonBehind(r, play)]
}

// tells returns what B of a clue of a kind and A is if it is to fit points.
func tells(kind, a int, play string) int {
	switch kind {
	case 0:
		return strings.Count(play, "a")
	case 1:
		return strings.Count(play[a:a+1], "a")
	case 2:
		return raceBehind(a, play)
	case 3:
		longest := 0
		for strings.Contains(play, strings.Repeat("a", longest+1)) || strings.Contains(play, strings.Repeat("b", longest+1)) {
			longest++
		}
		return longest
	case 4:
		won := 0
		for i := range play {
			won += asOne(i/a%2 == 0 && play[i] == 'a')
		}
		return won
	}
	changes := 0
	for i := 1; i < len(play); i++ {
		changes += asOne(play[i] != play[i-1])
	}
	return changes
}

func isFit(c impl.Clue, play string) bool { return tells(c.Kind, c.A, play) == c.B }

// solutionsOf tries all hidden points.
func solutionsOf(points int, clues ...impl.Clue) []string {
	var fit []string
	for _, play := range hidden(points) {
		if !slices.ContainsFunc(clues, func(c impl.Clue) bool { return !isFit(c, play) }) {
			fit = append(fit, play)
		}
	}
	return fit
}

func sureOf(solutions []string) string {
	if len(solutions) == 0 {
		return ""
	}
	sure := ""
	for i := range solutions[0] {
		letters := map[byte]bool{}
		for _, play := range solutions {
			letters[play[i]] = true
		}
		if len(letters) == 1 {
			sure += solutions[0][i : i+1]
		} else {
			sure += "?"
		}
	}
	return sure
}

func withoutClue(clues []impl.Clue, k int) []impl.Clue {
	return slices.Delete(slices.Clone(clues), k, k+1)
}

// harderOf marks clues as taken out, one after the other.
func harderOf(p impl.Puzzle) impl.Puzzle {
	out := map[int]bool{}
	left := func() []impl.Clue {
		var clues []impl.Clue
		for k, c := range p.Clues {
			if !out[k] {
				clues = append(clues, c)
			}
		}
		return clues
	}
	for k := range p.Clues {
		out[k] = true
		out[k] = len(solutionsOf(p.Points, left()...)) == 1
	}
	return impl.Puzzle{Points: p.Points, Clues: left()}
}

// checkPuzzle holds promise 9 for a puzzle.
func checkPuzzle(t *testing.T, p impl.Puzzle) {
	t.Helper()
	if !impl.IsPuzzle(p) {
		t.Errorf("IsPuzzle(%v) = false", p)
	}
	want := solutionsOf(p.Points, p.Clues...)
	if got, ok := impl.Solutions(p); !slices.Equal(got, want) || !ok {
		t.Errorf("Solutions(%v) = %q %v, want %q", p, got, ok, want)
	}
	if got, ok := impl.CountSolutions(p); got != len(want) || !ok {
		t.Errorf("CountSolutions(%v) = %d %v, want %d", p, got, ok, len(want))
	}
	if got, ok := impl.IsSolved(p); got != (len(want) == 1) || !ok {
		t.Errorf("IsSolved(%v) = %v %v, the solutions are %q", p, got, ok, want)
	}
	first := ""
	if len(want) > 0 {
		first = want[0]
	}
	if got, ok := impl.FirstSolution(p); got != first || ok != (len(want) > 0) {
		t.Errorf("FirstSolution(%v) = %q %v, want %q", p, got, ok, first)
	}
	if got, ok := impl.SurePoints(p); got != sureOf(want) || ok != (len(want) > 0) {
		t.Errorf("SurePoints(%v) = %q %v, want %q", p, got, ok, sureOf(want))
	}
	checkClues(t, p, len(want))
	checkHarder(t, p, want)
	checkChanged(t, p)
	text := textOfPuzzle(p)
	if got, ok := impl.PuzzleText(p); got != text || !ok {
		t.Errorf("PuzzleText(%v) = %q %v", p, got, ok)
	}
	if got, ok := impl.ParsePuzzle(text); !samePuzzle(got, p) || !ok {
		t.Errorf("ParsePuzzle(%q) = %v %v", text, got, ok)
	}
}

// checkClues holds what is told of the clues of a puzzle with so many solutions.
func checkClues(t *testing.T, p impl.Puzzle, solutions int) {
	t.Helper()
	best, fewest := 0, math.MaxInt
	left := []int{len(hidden(p.Points))}
	var needless []int
	for k, c := range p.Clues {
		if alone := len(solutionsOf(p.Points, c)); alone < fewest {
			best, fewest = k, alone
		}
		left = append(left, len(solutionsOf(p.Points, p.Clues[:k+1]...)))
		if len(solutionsOf(p.Points, withoutClue(p.Clues, k)...)) == solutions {
			needless = append(needless, k)
		}
	}
	if got, ok := impl.BestClue(p); got != best || ok != (len(p.Clues) > 0) {
		t.Errorf("BestClue(%v) = %d %v, want %d", p, got, ok, best)
	}
	if got, ok := impl.LeftByClues(p); !slices.Equal(got, left) || !ok {
		t.Errorf("LeftByClues(%v) = %v %v, want %v", p, got, ok, left)
	}
	if got, ok := impl.NeedlessClues(p); !slices.Equal(got, needless) || !ok {
		t.Errorf("NeedlessClues(%v) = %v %v, want %v", p, got, ok, needless)
	}
}

// checkHarder holds that a harder puzzle is solved by the same points, and that no clue of it is needless.
func checkHarder(t *testing.T, p impl.Puzzle, solutions []string) {
	t.Helper()
	got, ok := impl.HarderPuzzle(p)
	if len(solutions) != 1 {
		if !isNoPuzzle(got) || ok {
			t.Errorf("HarderPuzzle(%v) = %v %v, the solutions are %q", p, got, ok, solutions)
		}
		return
	}
	if want := harderOf(p); !samePuzzle(got, want) || !ok {
		t.Errorf("HarderPuzzle(%v) = %v %v, want %v", p, got, ok, want)
	}
	if same, ok := impl.Solutions(got); !slices.Equal(same, solutions) || !ok {
		t.Errorf("HarderPuzzle(%v) = %v is solved by %q %v, not by %q", p, got, same, ok, solutions)
	}
	if needless, ok := impl.NeedlessClues(got); len(needless) > 0 || !ok {
		t.Errorf("HarderPuzzle(%v) = %v has the needless clues %v %v", p, got, needless, ok)
	}
}

// checkChanged drops each clue, and adds some.
func checkChanged(t *testing.T, p impl.Puzzle) {
	t.Helper()
	for k := -1; k <= len(p.Clues)+1; k++ {
		var want impl.Puzzle
		if k >= 0 && k < len(p.Clues) {
			want = impl.Puzzle{Points: p.Points, Clues: withoutClue(p.Clues, k)}
		}
		if got, ok := impl.DropClue(p, k); !samePuzzle(got, want) || ok != (want.Points > 0) {
			t.Errorf("DropClue(%v, %d) = %v %v", p, k, got, ok)
		}
	}
	for _, c := range append([]impl.Clue{clue(1, p.Points-1, 1), clue(1, p.Points, 1), clue(6, 0, 0), clue(4, 8, 8)}, p.Clues...) {
		checkAddedClue(t, p, c)
	}
}

func checkAddedClue(t *testing.T, p impl.Puzzle, c impl.Clue) {
	t.Helper()
	var want impl.Puzzle
	if isPuzzle(p) && isClueOf(p.Points, c) && len(p.Clues) < 6 {
		want = impl.Puzzle{Points: p.Points, Clues: append(slices.Clone(p.Clues), c)}
	}
	if got, ok := impl.AddClue(p, c); !samePuzzle(got, want) || ok != (want.Points > 0) {
		t.Errorf("AddClue(%.200v, %v) = %v %v", p, c, got, ok)
	}
}

// checkWildPuzzle holds that what is no puzzle fails everywhere, with zero results.
func checkWildPuzzle(t *testing.T, p impl.Puzzle) {
	t.Helper()
	fine := impl.IsPuzzle(p)
	several, ok := impl.Solutions(p)
	fine = fine || ok || several != nil
	many, ok := impl.CountSolutions(p)
	fine = fine || ok || many != 0
	first, ok := impl.FirstSolution(p)
	fine = fine || ok || first != ""
	sure, ok := impl.SurePoints(p)
	fine = fine || ok || sure != ""
	solved, ok := impl.IsSolved(p)
	fine = fine || ok || solved
	needless, ok := impl.NeedlessClues(p)
	fine = fine || ok || needless != nil
	left, ok := impl.LeftByClues(p)
	fine = fine || ok || left != nil
	best, ok := impl.BestClue(p)
	fine = fine || ok || best != 0
	harder, ok := impl.HarderPuzzle(p)
	fine = fine || ok || !isNoPuzzle(harder)
	text, ok := impl.PuzzleText(p)
	if fine = fine || ok || text != ""; fine {
		t.Errorf("%.200v is a puzzle: %v %d %q %q %v %v %v %d %v %q", p, several, many, first, sure, solved, needless, left, best, harder, text)
	}
	for _, k := range []int{-1, 0, 1, len(p.Clues) - 1, len(p.Clues)} {
		if got, ok := impl.DropClue(p, k); !isNoPuzzle(got) || ok {
			t.Errorf("DropClue(%.200v, %d) = %v %v", p, k, got, ok)
		}
	}
	for _, c := range append([]impl.Clue{clue(0, 0, 1), clue(4, 1, 1), clue(9, 9, 9)}, p.Clues[:min(len(p.Clues), 7)]...) {
		checkAddedClue(t, p, c)
	}
}

func checkAsPuzzle(t *testing.T, p impl.Puzzle) {
	t.Helper()
	if isPuzzle(p) {
		checkPuzzle(t, p)
	} else {
		checkWildPuzzle(t, p)
	}
}

func TestPuzzleExample(t *testing.T) {
	p := puzzle(puzzleExample)
	if got, ok := impl.Solutions(p); !slices.Equal(got, []string{"baaa"}) || !ok {
		t.Error("Solutions", got, ok)
	}
	if got, ok := impl.FirstSolution(p); got != "baaa" || !ok {
		t.Error("FirstSolution", got, ok)
	}
	if got, ok := impl.LeftByClues(p); !slices.Equal(got, []int{16, 4, 2, 1}) || !ok {
		t.Error("LeftByClues", got, ok)
	}
	race := puzzle("3p2.2.1")
	if got, ok := impl.Solutions(race); !slices.Equal(got, []string{"aba", "baa"}) || !ok {
		t.Error("Solutions of a race", got, ok)
	}
	if got, ok := impl.SurePoints(race); got != "??a" || !ok {
		t.Error("SurePoints", got, ok)
	}
	if got, ok := impl.Solutions(puzzle("3p0.0.2,5.0.2")); !slices.Equal(got, []string{"aba"}) || !ok {
		t.Error("Solutions of changes", got, ok)
	}
	if impl.MaxHidden != 8 || impl.MaxClues != 6 {
		t.Error("the limits are", impl.MaxHidden, impl.MaxClues)
	}
}

// TestIsClue looks at all numbers about the limits, and at some far beyond.
func TestIsClue(t *testing.T) {
	for points := -2; points <= 11; points++ {
		for kind := -2; kind <= 8; kind++ {
			for a := -2; a <= 11; a++ {
				for b := -2; b <= 11; b++ {
					if c := clue(kind, a, b); impl.IsClue(points, c) != isClueOf(points, c) {
						t.Errorf("IsClue(%d, %v) = %v", points, c, !isClueOf(points, c))
					}
				}
			}
		}
	}
	for _, n := range append([]int{-1 << 32, 1 << 32, 1<<32 + 1, 1<<32 + 5}, wildInts...) {
		for kind := range 6 {
			for _, c := range []impl.Clue{clue(n, 0, 1), clue(n, 1, 1), clue(kind, n, 1), clue(kind, 0, n), clue(kind, 1, n), clue(kind, n, n), clue(n, n, n)} {
				for _, points := range []int{n, 1, 3, 8} {
					if impl.IsClue(points, c) != isClueOf(points, c) {
						t.Errorf("IsClue(%d, %v) = %v", points, c, !isClueOf(points, c))
					}
				}
			}
		}
	}
}

// TestCluesThatFit holds DoesFit for all clues and all hidden points.
func TestCluesThatFit(t *testing.T) {
	for points := 1; points <= 8; points++ {
		for _, c := range everyClue(points) {
			for _, play := range hidden(points) {
				if got, ok := impl.DoesFit(c, play); got != isFit(c, play) || !ok {
					t.Errorf("DoesFit(%v, %q) = %v %v", c, play, got, ok)
				}
			}
		}
	}
}

// TestWhatCluesTell names what some points tell: no other B fits.
func TestWhatCluesTell(t *testing.T) {
	for _, look := range []struct {
		play          string
		kind, a, want int
	}{
		{"a", 0, 0, 1}, {"b", 0, 0, 0}, {"aaaaaaaa", 0, 0, 8}, {"bbbbbbbb", 0, 0, 0}, {"abbab", 0, 0, 2},
		{"a", 1, 0, 1}, {"b", 1, 0, 0}, {"abbab", 1, 0, 1}, {"abbab", 1, 1, 0}, {"abbab", 1, 3, 1}, {"abbab", 1, 4, 0}, {"bbbbbbba", 1, 7, 1}, {"aaaaaaab", 1, 7, 0}, {"aaaaaaab", 1, 6, 1},
		{"a", 2, 1, 1}, {"b", 2, 1, 2}, {"a", 2, 2, 0}, {"aa", 2, 1, 3}, {"ab", 2, 1, 3}, {"ba", 2, 1, 3}, {"aba", 2, 2, 1}, {"bab", 2, 2, 2}, {"aab", 2, 2, 3}, {"aaa", 2, 2, 3}, {"ab", 2, 2, 0}, {"abab", 2, 2, 3},
		{"abab", 2, 3, 0}, {"abaa", 2, 3, 1}, {"babb", 2, 3, 2}, {"aaaaaaaa", 2, 8, 1}, {"bbbbbbbb", 2, 8, 2}, {"aaaaaaab", 2, 8, 0}, {"aaaaaaaa", 2, 7, 3}, {"aaaaaaab", 2, 7, 3}, {"baaaaaaa", 2, 7, 1}, {"abbbbbbb", 2, 7, 2}, {"abababab", 2, 4, 3}, {"abababab", 2, 5, 0},
		{"a", 3, 0, 1}, {"b", 3, 0, 1}, {"ab", 3, 0, 1}, {"aa", 3, 0, 2}, {"abba", 3, 0, 2}, {"aabbb", 3, 0, 3}, {"bbbaa", 3, 0, 3}, {"abababab", 3, 0, 1}, {"bbbbbbbb", 3, 0, 8}, {"abbbbbbb", 3, 0, 7},
		{"a", 4, 1, 1}, {"b", 4, 1, 0}, {"aa", 4, 1, 1}, {"ba", 4, 1, 0}, {"aabba", 4, 2, 3}, {"aaaaa", 4, 2, 3}, {"aaaaaaaa", 4, 3, 5}, {"aaaaaaaa", 4, 7, 7}, {"aaaaaaaa", 4, 8, 8}, {"bbbbbbba", 4, 7, 0}, {"bbbbbbba", 4, 8, 1},
		{"aba", 4, 8, 2}, {"aba", 4, 4, 2}, {"aba", 4, 3, 2}, {"aba", 4, 2, 1}, {"aab", 4, 8, 2}, {"aab", 4, 1, 1}, {"bab", 4, 5, 1}, {"bab", 4, 1, 0}, {"bab", 4, 2, 1}, {"aaaa", 4, 1, 2}, {"bbbb", 4, 5, 0},
		{"a", 5, 0, 0}, {"b", 5, 0, 0}, {"ab", 5, 0, 1}, {"bb", 5, 0, 0}, {"aba", 5, 0, 2}, {"abba", 5, 0, 2}, {"abababab", 5, 0, 7}, {"babababa", 5, 0, 7}, {"aaaabbbb", 5, 0, 1},
	} {
		for b := range 9 {
			c := clue(look.kind, look.a, b)
			if got, ok := impl.DoesFit(c, look.play); got != (b == look.want) || ok != isClueOf(len(look.play), c) {
				t.Errorf("DoesFit(%v, %q) = %v %v, want B %d", c, look.play, got, ok, look.want)
			}
		}
	}
}

func TestCluesThatCannotFit(t *testing.T) {
	no := func(c impl.Clue, play string) {
		if got, ok := impl.DoesFit(c, play); got || ok {
			t.Errorf("DoesFit(%v, %.100q) = %v %v", c, play, got, ok)
		}
	}
	for _, text := range append(noPoints(), "", "aaaaaaaaa", "ababababa", "bbbbbbbbbb") {
		if isHidden(text) {
			t.Fatal(text)
		}
		for _, c := range everyClue(8) {
			no(c, text)
		}
		no(clue(1, len(text)-1, 1), text)
		no(clue(6, 0, 0), text)
	}
	for points := 1; points <= 8; points++ {
		for _, play := range hidden(points) {
			for _, c := range []impl.Clue{
				clue(-1, 0, 0), clue(6, 0, 0), clue(0, 0, -1), clue(0, 0, 9), clue(0, 1, tells(0, 0, play)), clue(0, -1, tells(0, 0, play)), clue(1, -1, 0), clue(1, points, 0), clue(1, points, 1), clue(1, 0, 2), clue(1, 0, -1),
				clue(2, 0, 3), clue(2, 0, 0), clue(2, 9, 0), clue(2, 1, 4), clue(2, 1, -1), clue(3, 0, -1), clue(3, 0, 9), clue(3, 1, tells(3, 0, play)), clue(4, 0, 0), clue(4, 9, tells(4, 8, play)), clue(4, 10, tells(4, 8, play)),
				clue(4, 1, -1), clue(4, 1, 9), clue(5, 0, -1), clue(5, 0, 9), clue(5, 1, tells(5, 0, play)), clue(math.MaxInt, 0, 0), clue(math.MinInt, 0, 0), clue(1, math.MinInt, 0), clue(1, math.MaxInt, 1), clue(4, math.MinInt, 0),
			} {
				no(c, play)
			}
		}
	}
}

// TestPuzzlesOfFewClues holds promise 9 for puzzles without a clue, for all with one, and for all of two points with two.
func TestPuzzlesOfFewClues(t *testing.T) {
	for points := 1; points <= 8; points++ {
		checkPuzzle(t, impl.Puzzle{Points: points})
		checkPuzzle(t, impl.Puzzle{Points: points, Clues: []impl.Clue{}})
		for _, c := range everyClue(points) {
			checkPuzzle(t, impl.Puzzle{Points: points, Clues: []impl.Clue{c}})
		}
	}
	for _, c := range everyClue(2) {
		for _, other := range everyClue(2) {
			checkPuzzle(t, impl.Puzzle{Points: 2, Clues: []impl.Clue{c, other}})
		}
	}
}

// randomClue returns one that some points fit, or any one.
func randomClue(r *rand.Rand, points int, play string) impl.Clue {
	all := everyClue(points)
	c := all[r.Intn(len(all))]
	if play != "" {
		c.B = tells(c.Kind, c.A, play)
	}
	return c
}

// randomPuzzle returns a puzzle that some points fit, or, without points, perhaps none do. Some clues come twice.
func randomPuzzle(r *rand.Rand, points, clues int, play string) impl.Puzzle {
	p := impl.Puzzle{Points: points}
	for k := range clues {
		if k > 0 && r.Intn(5) == 0 {
			p.Clues = append(p.Clues, p.Clues[r.Intn(k)])
		} else {
			p.Clues = append(p.Clues, randomClue(r, points, play))
		}
	}
	return p
}

func TestRandomPuzzles(t *testing.T) {
	r := rand.New(rand.NewSource(9))
	solved, none, several := 0, 0, 0
	for points := 1; points <= 8; points++ {
		for clues := range 7 {
			for range 14 {
				all := hidden(points)
				p := randomPuzzle(r, points, clues, all[r.Intn(len(all))])
				checkPuzzle(t, p)
				if len(solutionsOf(points, p.Clues...)) == 1 {
					solved++
				} else {
					several++
				}
				p = randomPuzzle(r, points, clues, "")
				checkPuzzle(t, p)
				if len(solutionsOf(points, p.Clues...)) == 0 {
					none++
				}
			}
		}
	}
	if solved < 100 || none < 100 || several < 100 {
		t.Errorf("%d of the puzzles are solved, %d have no solution, %d several", solved, none, several)
	}
}

// TestKnownPuzzles names what is told of puzzles of each sort.
func TestKnownPuzzles(t *testing.T) {
	for _, look := range []struct {
		text, solutions, sure, harder string
		needless, left                []int
		best                          int
	}{
		{"1p", "a b", "?", "", nil, []int{2}, 0},
		{"2p", "aa ab ba bb", "??", "", nil, []int{4}, 0},
		{"1p1.0.1", "a", "a", "1p1.0.1", nil, []int{2, 1}, 0},
		{"2p3.0.1", "ab ba", "??", "", nil, []int{4, 2}, 0},
		{"2p3.0.0", "", "", "", nil, []int{4, 0}, 0},
		{"2p5.0.8,5.0.0", "", "", "", []int{1}, []int{4, 0, 0}, 0},
		{"3p1.0.1,1.0.0", "", "", "", nil, []int{8, 4, 0}, 0},
		{"3p1.0.1,1.0.0,1.1.1", "", "", "", []int{2}, []int{8, 4, 0, 0}, 0},
		{"3p2.8.0", "aaa aab aba abb baa bab bba bbb", "???", "", []int{0}, []int{8, 8}, 0},
		{"2p2.1.3,2.3.0", "aa ab ba bb", "??", "", []int{0, 1}, []int{4, 4, 4}, 0},
		{"8p0.0.8", "aaaaaaaa", "aaaaaaaa", "8p0.0.8", nil, []int{256, 1}, 0},
		{"8p0.0.8,0.0.8,0.0.8,0.0.8,0.0.8,0.0.8", "aaaaaaaa", "aaaaaaaa", "8p0.0.8", []int{0, 1, 2, 3, 4, 5}, []int{256, 1, 1, 1, 1, 1, 1}, 0},
		{"4p0.0.0,3.0.4,0.0.0", "bbbb", "bbbb", "4p0.0.0", []int{0, 1, 2}, []int{16, 1, 1, 1}, 0},
		{"4p0.0.0,3.0.4,1.0.0", "bbbb", "bbbb", "4p3.0.4,1.0.0", []int{0, 1, 2}, []int{16, 1, 1, 1}, 0},
		{"4p3.0.4,1.0.0,0.0.0", "bbbb", "bbbb", "4p0.0.0", []int{0, 1, 2}, []int{16, 2, 1, 1}, 2},
		{puzzleExample, "baaa", "baaa", "4p0.0.3,1.0.0", []int{0}, []int{16, 4, 2, 1}, 0},
		{"4p1.0.0,1.1.1,1.2.1,1.3.1", "baaa", "baaa", "4p1.0.0,1.1.1,1.2.1,1.3.1", nil, []int{16, 8, 4, 2, 1}, 0},
		{"4p1.0.0,1.1.1,0.0.3,1.2.1,1.3.1", "baaa", "baaa", "4p1.1.1,0.0.3,1.2.1,1.3.1", []int{0, 1, 2, 3, 4}, []int{16, 8, 4, 1, 1, 1}, 2},
		{"4p0.0.3,3.0.3,1.0.0", "baaa", "baaa", "4p0.0.3,1.0.0", []int{1}, []int{16, 4, 2, 1}, 0},
		{"3p0.0.2,5.0.2", "aba", "aba", "3p0.0.2,5.0.2", nil, []int{8, 3, 1}, 1},
		{"3p2.2.1", "aba baa", "??a", "", nil, []int{8, 2}, 0},
		{"3p2.2.2", "abb bab", "??b", "", nil, []int{8, 2}, 0},
		{"3p2.2.3", "aaa aab bba bbb", "???", "", nil, []int{8, 4}, 0},
		{"3p2.3.0,2.2.3,1.2.0", "aab", "aab", "3p2.3.0,2.2.3,1.2.0", nil, []int{8, 6, 2, 1}, 1},
		{"2p4.8.2", "aa", "aa", "2p4.8.2", nil, []int{4, 1}, 0},
		{"2p4.8.1,4.1.1", "ab", "ab", "2p4.8.1,4.1.1", nil, []int{4, 2, 1}, 0},
		{"2p1.0.1,1.1.1,0.0.1", "", "", "", nil, []int{4, 2, 1, 0}, 0},
	} {
		p := puzzle(look.text)
		checkPuzzle(t, p)
		if got, ok := impl.Solutions(p); strings.Join(got, " ") != look.solutions || !ok {
			t.Errorf("Solutions of %s are %q %v", look.text, got, ok)
		}
		if got, _ := impl.SurePoints(p); got != look.sure {
			t.Errorf("SurePoints of %s are %q", look.text, got)
		}
		harder, ok := impl.HarderPuzzle(p)
		if text, _ := impl.PuzzleText(harder); text != look.harder || ok != (look.harder != "") {
			t.Errorf("HarderPuzzle of %s is %s", look.text, text)
		}
		if got, _ := impl.NeedlessClues(p); !slices.Equal(got, look.needless) {
			t.Errorf("NeedlessClues of %s are %v", look.text, got)
		}
		if got, _ := impl.LeftByClues(p); !slices.Equal(got, look.left) {
			t.Errorf("LeftByClues of %s are %v", look.text, got)
		}
		if got, _ := impl.BestClue(p); got != look.best {
			t.Errorf("BestClue of %s is %d", look.text, got)
		}
	}
}

// TestSolutionsOfNoClue holds that all hidden points are told, in order, where nothing is asked of them.
func TestSolutionsOfNoClue(t *testing.T) {
	for points := 1; points <= 8; points++ {
		for _, p := range []impl.Puzzle{{Points: points}, {Points: points, Clues: []impl.Clue{}}, {Points: points, Clues: make([]impl.Clue, 0, 3)}} {
			all, ok := impl.Solutions(p)
			if len(all) != 1<<points || !ok || !slices.IsSorted(all) || len(slices.Compact(slices.Clone(all))) != len(all) {
				t.Errorf("Solutions(%v) = %q %v", p, all, ok)
			}
			if all[0] != strings.Repeat("a", points) || all[len(all)-1] != strings.Repeat("b", points) {
				t.Errorf("Solutions(%v) go from %q to %q", p, all[0], all[len(all)-1])
			}
			if got, ok := impl.SurePoints(p); got != strings.Repeat("?", points) || !ok {
				t.Errorf("SurePoints(%v) = %q %v", p, got, ok)
			}
			if got, ok := impl.NeedlessClues(p); len(got) != 0 || !ok {
				t.Errorf("NeedlessClues(%v) = %v %v", p, got, ok)
			}
			if got, ok := impl.BestClue(p); got != 0 || ok {
				t.Errorf("BestClue(%v) = %d %v", p, got, ok)
			}
		}
	}
}

// TestBestOfEqualClues exchanges clues that alone as many hidden points fit.
func TestBestOfEqualClues(t *testing.T) {
	for text, want := range map[string]int{
		"4p0.0.4,0.0.0": 0, "4p0.0.0,0.0.4": 0, "4p1.0.1,0.0.4,0.0.0": 1, "4p1.0.1,0.0.0,0.0.4": 1, "4p1.0.1,1.1.1,1.2.1,1.3.1": 0, "4p0.0.2,1.0.1,0.0.4,3.0.4,2.4.1,0.0.0": 2,
		"4p2.8.0,0.0.5,3.0.0,5.0.4": 1, "4p0.0.5,2.8.0": 0, "4p2.8.0,2.8.0": 0, "4p2.8.0,0.0.5": 1, "4p1.0.1,2.8.0,1.0.1,2.8.0,1.0.0": 0, "4p2.8.0,1.0.1,2.8.0,1.0.1,1.0.0": 1,
	} {
		if got, ok := impl.BestClue(puzzle(text)); got != want || !ok {
			t.Errorf("BestClue of %s = %d %v, want %d", text, got, ok, want)
		}
	}
}

// TestDroppedAndAddedClues drops the first and the last clue, and adds clues up to MaxClues and one more.
func TestDroppedAndAddedClues(t *testing.T) {
	for text, want := range map[string][]string{
		puzzleExample: {"4p0.0.3,1.0.0", "4p3.0.3,1.0.0", "4p3.0.3,0.0.3"}, "1p0.0.1": {"1p"}, "2p": {}, "8p1.7.1,1.7.1": {"8p1.7.1", "8p1.7.1"},
		"5p0.0.1,1.0.1,2.1.1,3.0.1,4.1.1,5.0.1": {"5p1.0.1,2.1.1,3.0.1,4.1.1,5.0.1", "5p0.0.1,2.1.1,3.0.1,4.1.1,5.0.1", "5p0.0.1,1.0.1,3.0.1,4.1.1,5.0.1", "5p0.0.1,1.0.1,2.1.1,4.1.1,5.0.1", "5p0.0.1,1.0.1,2.1.1,3.0.1,5.0.1", "5p0.0.1,1.0.1,2.1.1,3.0.1,4.1.1"},
	} {
		for k, dropped := range want {
			got, ok := impl.DropClue(puzzle(text), k)
			if !samePuzzle(got, puzzle(dropped)) || !ok {
				t.Errorf("DropClue(%s, %d) = %v %v", text, k, got, ok)
			}
		}
		for _, k := range append([]int{len(want), len(want) + 1, 5, 6, 7}, wildInts...) {
			if got, ok := impl.DropClue(puzzle(text), k); (k < 0 || k >= len(want)) && (!isNoPuzzle(got) || ok) {
				t.Errorf("DropClue(%s, %d) = %v %v", text, k, got, ok)
			}
		}
	}
	p := impl.Puzzle{Points: 5}
	for k := range 8 {
		c := clue(k%6, []int{0, 4, 8, 0, 1, 0}[k%6], k%2)
		got, ok := impl.AddClue(p, c)
		if k >= 6 {
			if !isNoPuzzle(got) || ok {
				t.Errorf("AddClue(%v, %v) = %v %v", p, c, got, ok)
			}
			continue
		}
		if ok != (len(got.Clues) == k+1) || !ok || got.Clues[k] != c || !slices.Equal(got.Clues[:k], p.Clues) || got.Points != 5 {
			t.Fatalf("AddClue(%v, %v) = %v %v", p, c, got, ok)
		}
		p = got
	}
	for _, c := range []impl.Clue{clue(1, 5, 0), clue(1, -1, 0), clue(6, 0, 0), clue(-1, 0, 0), clue(0, 1, 0), clue(0, 0, 9), clue(2, 0, 0), clue(2, 9, 0), clue(2, 1, 4), clue(4, 0, 0), clue(4, 9, 0), clue(3, 0, -1), clue(5, 0, 9)} {
		checkAddedClue(t, puzzle("5p"), c)
		checkAddedClue(t, puzzle("5p0.0.1,0.0.1"), c)
	}
}

// madePuzzle makes a puzzle number by number.
func madePuzzle(play string, clues, seed int) impl.Puzzle {
	z := seed
	next := func() int {
		z = (z*271 + 1283) % 10007
		return z
	}
	p := impl.Puzzle{Points: len(play)}
	for range clues {
		kind := next() % 6
		y := next()
		a := map[int]int{1: y % len(play), 2: y%8 + 1, 4: y%8 + 1}[kind]
		p.Clues = append(p.Clues, clue(kind, a, tells(kind, a, play)))
	}
	return p
}

func checkMade(t *testing.T, play string, clues, seed int) {
	t.Helper()
	var want impl.Puzzle
	if isHidden(play) && clues >= 0 && clues <= 6 && seed >= 0 && seed <= 9999 {
		want = madePuzzle(play, clues, seed)
	}
	got, ok := impl.MakePuzzle(play, clues, seed)
	if !samePuzzle(got, want) || ok != (want.Points > 0) {
		t.Errorf("MakePuzzle(%.100q, %d, %d) = %v %v, want %v", play, clues, seed, got, ok, want)
	}
	if ok && !impl.IsPuzzle(got) {
		t.Errorf("MakePuzzle(%q, %d, %d) = %v is no puzzle", play, clues, seed, got)
	}
	for _, c := range got.Clues {
		if fit, ok := impl.DoesFit(c, play); !fit || !ok {
			t.Errorf("MakePuzzle(%q, %d, %d) has the clue %v that does not fit", play, clues, seed, c)
		}
	}
}

func TestMadePuzzles(t *testing.T) {
	for seed := -3; seed <= 10010; seed++ {
		for _, play := range []string{"abba", "b", "abbababb", "bbbbbbb"} {
			checkMade(t, play, 6, seed)
		}
		checkMade(t, "aabab", max(seed, 0)%7, seed)
	}
	for points := 1; points <= 8; points++ {
		for _, play := range hidden(points) {
			for clues := -1; clues <= 7; clues++ {
				for _, seed := range []int{-1, 0, 1, 37, 9998, 9999, 10000} {
					checkMade(t, play, clues, seed)
				}
			}
		}
	}
}

// TestKnownMadePuzzles holds puzzles that were made by hand.
func TestKnownMadePuzzles(t *testing.T) {
	for _, look := range []struct {
		play        string
		clues, seed int
		want        string
	}{
		{"abba", 6, 0, "4p5.0.2,3.0.2,2.6.0,3.0.2,2.5.0,0.0.2"}, {"abba", 6, 1, "4p0.0.2,1.2.0,0.0.2,0.0.2,2.6.0,1.1.0"}, {"abba", 6, 17, "4p4.1.1,3.0.2,0.0.2,1.3.1,1.0.1,4.3.1"}, {"abba", 6, 9999, "4p2.1.3,2.7.0,5.0.2,0.0.2,0.0.2,2.2.3"},
		{"abbababb", 6, 0, "8p5.0.5,3.0.2,2.6.0,3.0.2,2.5.2,0.0.3"}, {"abbababb", 6, 17, "8p4.1.1,3.0.2,0.0.3,1.3.1,1.4.0,4.3.1"}, {"bbbbbbbb", 6, 0, "8p5.0.0,3.0.8,2.6.3,3.0.8,2.5.3,0.0.0"}, {"aabab", 6, 17, "5p4.1.1,3.0.2,0.0.3,1.0.1,1.1.1,4.3.2"},
		{"a", 6, 9999, "1p2.1.1,2.7.0,5.0.0,0.0.1,0.0.1,2.2.0"}, {"b", 3, 9999, "1p2.1.2,2.7.0,5.0.0"}, {"a", 0, 0, "1p"}, {"abbababb", 0, 9999, "8p"}, {"abba", 1, 0, "4p5.0.2"}, {"abba", 2, 1, "4p0.0.2,1.2.0"},
	} {
		got, ok := impl.MakePuzzle(look.play, look.clues, look.seed)
		if text := textOfPuzzle(got); text != look.want || !ok {
			t.Errorf("MakePuzzle(%q, %d, %d) = %s %v, want %s", look.play, look.clues, look.seed, text, ok, look.want)
		}
		checkPuzzle(t, got)
	}
}

func TestPuzzlesThatCannotBeMade(t *testing.T) {
	for _, text := range append(noPoints(), "", "aaaaaaaaa", "ababababab") {
		checkMade(t, text, 0, 0)
		checkMade(t, text, 6, 9999)
	}
	for _, n := range append([]int{5, 6, 7, 8, 9999, 10000, 10007, 1 << 32, -1 << 32}, wildInts...) {
		for _, play := range []string{"", "a", "abba", "bbbbbbbb"} {
			checkMade(t, play, n, 5)
			checkMade(t, play, 5, n)
			checkMade(t, play, n, n)
		}
	}
}

var puzzleForm = regexp.MustCompile(`^[1-8]p(?:[0-5]\.[0-8]\.[0-8](?:,[0-5]\.[0-8]\.[0-8]){0,5})?$`)

// checkPuzzleText holds that a text leads back to itself, or is none.
func checkPuzzleText(t *testing.T, text string) {
	t.Helper()
	var want impl.Puzzle
	if puzzleForm.MatchString(text) && isPuzzle(puzzle(text)) {
		want = puzzle(text)
	}
	got, ok := impl.ParsePuzzle(text)
	if !samePuzzle(got, want) || ok != (want.Points > 0) {
		t.Errorf("ParsePuzzle(%.100q) = %.200v %v", text, got, ok)
	}
	if again, fine := impl.PuzzleText(got); fine != ok || ok && again != text {
		t.Errorf("PuzzleText of %.100q = %q %v", text, again, fine)
	}
}

func TestPuzzleTexts(t *testing.T) {
	for _, text := range everyText("019p.,", 5) {
		checkPuzzleText(t, text)
	}
	for _, text := range everyText("0129.,", 6) {
		checkPuzzleText(t, "3p"+text)
	}
	for n := -3; n <= 111; n++ {
		for _, number := range []string{strconv.Itoa(n), "0" + strconv.Itoa(n), "+" + strconv.Itoa(n), "-" + strconv.Itoa(n), " " + strconv.Itoa(n), strconv.Itoa(n) + " "} {
			for _, form := range []string{"#p", "#p1.2.1", "5p#.0.1", "5p#.1.1", "5p0.#.1", "5p1.#.1", "5p2.#.1", "5p3.#.1", "5p4.#.1", "5p5.#.1", "5p0.0.#", "5p1.0.#", "5p2.1.#", "5p3.0.#", "5p4.1.#", "5p5.0.#", "5p0.0.1,#.0.1", "5p0.0.1,1.#.1", "5p0.0.1,4.1.#"} {
				checkPuzzleText(t, strings.Replace(form, "#", number, 1))
			}
		}
	}
	for clues := range 9 {
		checkPuzzleText(t, "8p"+strings.Join(slices.Repeat([]string{"4.8.8"}, clues), ","))
		checkPuzzleText(t, "8p"+strings.Repeat("4.8.8,", clues))
	}
}

func TestSpoiledPuzzleTexts(t *testing.T) {
	for _, text := range []string{puzzleExample, "8p", "1p1.0.1", "8p1.7.1,4.8.8,2.8.3", "2p0.0.8,1.1.1,2.1.0,3.0.0,4.1.0,5.0.8"} {
		checkPuzzleText(t, text)
		spoilText(text, "0123456789p.,-+ \n\x00Px", func(text string) { checkPuzzleText(t, text) })
	}
}

func TestTextsOfNoPuzzles(t *testing.T) {
	for _, text := range []string{
		"", "p", "4", "p4", "0p", "9p", "10p", "-1p", "04p", "+4p", "4P", "4pp", "4p,", "4p.", "4p..", "4p0", "4p0.0", "4p0.0.", "4p.0.0", "4p0..0", "4p0.0.0.", "4p0.0.0.0", "4p0.0.1,", "4p,0.0.1", "4p0.0.1,,0.0.1", "4p0.0.1;0.0.1", "4p0,0.1",
		"4p 0.0.1", "4p0.0.1 ", " 4p0.0.1", "4p0.0.1\n", "4p0.0.1\x00", "4p0:0:1", "4p0.0.9", "4p0.1.1", "4p1.4.0", "4p1.0.2", "4p1.-1.0", "4p2.0.0", "4p2.9.0", "4p2.1.4", "4p3.1.1", "4p4.0.0", "4p4.9.0", "4p4.1.9", "4p5.1.1", "4p6.0.0", "4p-1.0.0",
		"4p0.0.1p", "4p0.0.1,4p", "4p00.0.1", "4p0.00.1", "4p0.0.01", "4p0.0.+1", "4p0.-0.1", "4p0.0.1e0", "4p0.0.0x1", "4p0.0.1_0", "4p0.0.١", "４p", "4p０.0.1", "4ｐ", "4p0。0.1", "\xff", "4p\xff", "4\xffp",
		"18446744073709551620p", "4p18446744073709551616.0.1", "4p0.18446744073709551616.1", "4p0.0.18446744073709551617", "9223372036854775807p", "9223372036854775808p", "4p0.0.9223372036854775807", "4p-9223372036854775808.0.0",
		"4p0.0.1,0.0.1,0.0.1,0.0.1,0.0.1,0.0.1,0.0.1", strings.Repeat("4", 1<<20), strings.Repeat("p", 1<<20), "4p" + strings.Repeat(",", 1<<20), "4p" + strings.Repeat("0.0.1,", 1<<18), "4p" + strings.Repeat(".", 1<<20), strings.Repeat("0", 1<<20) + "4p", "4p0.0." + strings.Repeat("0", 1<<20) + "1",
	} {
		if got, ok := impl.ParsePuzzle(text); !isNoPuzzle(got) || ok {
			t.Errorf("ParsePuzzle(%.60q) = %.60v %v", text, got, ok)
		}
		checkPuzzleText(t, text)
	}
}

// wildPuzzles are puzzles that are none: by their points, by how many clues they have, or by a clue at some place.
func wildPuzzles() []impl.Puzzle {
	all := []impl.Puzzle{{}, {Clues: []impl.Clue{clue(0, 0, 1)}}, {Points: 9}, {Points: 8, Clues: make([]impl.Clue, 7)}, {Points: 8, Clues: make([]impl.Clue, 1<<20)}, {Points: 1, Clues: slices.Repeat([]impl.Clue{clue(0, 0, 1)}, 7)}}
	for _, n := range append([]int{8, 9, 10, 1 << 32, 1<<32 + 3}, wildInts...) {
		for clues := range 7 {
			all = append(all, impl.Puzzle{Points: n, Clues: slices.Repeat([]impl.Clue{clue(4, 2, 1)}, clues)})
		}
		for kind := range 6 {
			for place := range 3 {
				for _, c := range []impl.Clue{clue(n, 0, 1), clue(n, 1, 1), clue(kind, n, 1), clue(kind, 0, n), clue(kind, 1, n), clue(kind, n, n), clue(n, n, n)} {
					all = append(all, impl.Puzzle{Points: 3, Clues: slices.Insert([]impl.Clue{clue(1, 0, 1), clue(3, 0, 0)}, place, c)})
				}
			}
		}
	}
	for points := 1; points <= 8; points++ {
		for place := range 6 {
			p := impl.Puzzle{Points: points, Clues: slices.Repeat([]impl.Clue{clue(0, 0, 1)}, 6)}
			p.Clues[place] = clue(1, points, 1) // which is one of more points
			all = append(all, p)
		}
	}
	return slices.DeleteFunc(all, isPuzzle)
}

// TestWildPuzzles holds promise 11: what is no puzzle fails everywhere, with zero results.
func TestWildPuzzles(t *testing.T) {
	all := wildPuzzles()
	if len(all) < 1000 {
		t.Errorf("there are only %d", len(all))
	}
	for _, p := range all {
		checkWildPuzzle(t, p)
	}
}

// TestPuzzlesAtMaxClues holds that there may be so many clues, and not one more, whatever they are.
func TestPuzzlesAtMaxClues(t *testing.T) {
	r := rand.New(rand.NewSource(6))
	for points := 0; points <= 9; points++ {
		for clues := 5; clues <= 8; clues++ {
			for range 4 {
				p := impl.Puzzle{Points: points}
				for range clues {
					p.Clues = append(p.Clues, randomClue(r, min(max(points, 1), 8), ""))
				}
				checkAsPuzzle(t, p)
			}
		}
	}
}

// callPuzzle calls every function that takes a puzzle.
func callPuzzle(p impl.Puzzle) {
	impl.IsPuzzle(p)
	impl.Solutions(p)
	impl.CountSolutions(p)
	impl.FirstSolution(p)
	impl.SurePoints(p)
	impl.IsSolved(p)
	impl.NeedlessClues(p)
	for k := -1; k <= len(p.Clues); k++ {
		impl.DropClue(p, k)
	}
	impl.AddClue(p, clue(0, 0, 1))
	impl.AddClue(p, clue(9, 9, 9))
	impl.LeftByClues(p)
	impl.BestClue(p)
	impl.HarderPuzzle(p)
	impl.PuzzleText(p)
}

// TestPuzzlesAreKept holds promise 11: clues and the room behind them are neither written nor read.
func TestPuzzlesAreKept(t *testing.T) {
	all := []impl.Puzzle{puzzle("3p"), puzzle("1p1.0.1"), puzzle(puzzleExample), puzzle("8p0.0.8,0.0.8,0.0.8,0.0.8,0.0.8,0.0.8"), puzzle("4p0.0.0,3.0.4,1.0.0"), puzzle("2p5.0.8,5.0.0"), puzzle("4p1.0.0,1.1.1,0.0.3,1.2.1,1.3.1")}
	for _, p := range append(all, wildPuzzles()...) {
		if len(p.Clues) > 100 {
			continue
		}
		for _, room := range [][]impl.Clue{{clue(0, 0, 2)}, make([]impl.Clue, 7), {clue(-7, -7, -7), clue(1, 0, 1)}} {
			whole := slices.Concat(p.Clues, room)
			kept := slices.Clone(whole)
			with := impl.Puzzle{Points: p.Points, Clues: whole[:len(p.Clues)]}
			callPuzzle(with)
			checkAsPuzzle(t, with)
			if !slices.Equal(whole, kept) {
				t.Fatalf("the clues %v became %v", kept, whole)
			}
		}
	}
}

// spoilClues writes into a puzzle and into the room behind its clues.
func spoilClues(p impl.Puzzle) {
	whole := p.Clues[:cap(p.Clues)]
	for i := range whole {
		whole[i] = clue(-7, -7, -7)
	}
}

// TestNewPuzzlesAreNew holds that puzzles that are returned share no memory with those that were given, nor with each other.
func TestNewPuzzlesAreNew(t *testing.T) {
	makers := map[string]func(p impl.Puzzle) (impl.Puzzle, bool){
		"DropClue 0":   func(p impl.Puzzle) (impl.Puzzle, bool) { return impl.DropClue(p, 0) },
		"DropClue 1":   func(p impl.Puzzle) (impl.Puzzle, bool) { return impl.DropClue(p, 1) },
		"DropClue 2":   func(p impl.Puzzle) (impl.Puzzle, bool) { return impl.DropClue(p, 2) },
		"AddClue":      func(p impl.Puzzle) (impl.Puzzle, bool) { return impl.AddClue(p, clue(0, 0, 3)) },
		"HarderPuzzle": impl.HarderPuzzle,
		"ParsePuzzle":  func(p impl.Puzzle) (impl.Puzzle, bool) { return impl.ParsePuzzle(textOfPuzzle(p)) },
		"MakePuzzle":   func(p impl.Puzzle) (impl.Puzzle, bool) { return impl.MakePuzzle("baaa", 3, 5) },
	}
	for name, maker := range makers {
		for _, text := range []string{puzzleExample, "4p0.0.0,3.0.4,1.0.0", "1p1.0.1", "3p"} {
			p := puzzle(text)
			whole := append(slices.Clone(p.Clues), make([]impl.Clue, 4)...)
			kept := slices.Clone(whole)
			p.Clues = whole[:len(p.Clues)]
			first, _ := maker(p)
			second, _ := maker(p)
			want := impl.Puzzle{Points: second.Points, Clues: slices.Clone(second.Clues)}
			spoilClues(first)
			if !slices.Equal(whole, kept) {
				t.Errorf("%s of %s shares memory with what was given: %v", name, text, whole)
			}
			if !samePuzzle(second, want) {
				t.Errorf("%s of %s shares memory with what it returned before", name, text)
			}
		}
	}
}

func TestPuzzleListsAreNew(t *testing.T) {
	p := puzzle("4p0.0.0,3.0.4,0.0.0")
	for range 2 {
		checkPuzzle(t, p)
		solutions, _ := impl.Solutions(impl.Puzzle{Points: 4})
		clear(solutions[:cap(solutions)])
		needless, _ := impl.NeedlessClues(p)
		spoil(needless)
		left, _ := impl.LeftByClues(p)
		spoil(left)
		checkPuzzle(t, puzzle("4p"))
	}
}

// TestPuzzlesAtOnce holds that calls at the same time do not disturb each other, clues that are none among them.
func TestPuzzlesAtOnce(t *testing.T) {
	shared := puzzle("6p2.4.0,4.2.3,0.0.3,1.0.1,3.0.2")
	none := puzzle("6p2.4.0,4.9.3,0.0.3,1.0.1")
	var callers sync.WaitGroup
	for range 8 {
		callers.Go(func() {
			for range 5 {
				checkPuzzle(t, shared)
				checkWildPuzzle(t, none)
			}
		})
	}
	callers.Wait()
}
