package tests

import (
	"math"
	"math/rand"
	"slices"
	"strconv"
	"strings"
	"testing"

	"loop.example/g01368/impl"
)

// rack is what stands on the table, and whether a colour is to be potted now.
type rack struct {
	reds    int
	onTable []int
	colour  bool
}

func newRack(f impl.Frame) rack {
	r := rack{reds: f.Reds, colour: f.Colour}
	for ball := f.Least; ball <= 7; ball++ {
		r.onTable = append(r.onTable, ball)
	}
	return r
}

func (r rack) frame() impl.Frame {
	f := impl.Frame{Reds: r.reds, Colour: r.colour, Least: 8}
	if len(r.onTable) > 0 {
		f.Least = r.onTable[0]
	}
	return f
}

// may returns the scores of all balls that may be potted.
func (r rack) may() []int {
	switch {
	case r.colour:
		return r.onTable
	case r.reds > 0:
		return []int{1}
	case len(r.onTable) > 0:
		return r.onTable[:1]
	}
	return nil
}

// pot puts a colour that one likes back, and takes one off that is potted in order.
func (r rack) pot(ball int) rack {
	switch {
	case r.colour:
		r.colour = false
	case ball == 1:
		r.reds, r.colour = r.reds-1, true
	default:
		r.onTable = r.onTable[1:]
	}
	return r
}

func (r rack) potText(balls string) (rack, bool) {
	for i := range len(balls) {
		ball := int(balls[i]) - '0'
		if !slices.Contains(r.may(), ball) {
			return rack{}, false
		}
		r = r.pot(ball)
	}
	return r, true
}

func frame(reds int, colour bool, least int) impl.Frame {
	return impl.Frame{Reds: reds, Colour: colour, Least: least}
}

// everyFrame returns all frames: those with red balls, those in which a colour is to be potted, and those without red balls.
func everyFrame() []impl.Frame {
	var all []impl.Frame
	for reds := 1; reds <= 15; reds++ {
		all = append(all, frame(reds, false, 2), frame(reds-1, true, 2))
	}
	for least := 2; least <= 8; least++ {
		all = append(all, frame(0, false, least))
	}
	return all
}

// smallFrames are those whose breaks can all be looked at.
func smallFrames() []impl.Frame {
	return slices.DeleteFunc(everyFrame(), func(f impl.Frame) bool { return f.Reds > 4 || f.Reds == 4 && f.Colour })
}

var wildFrames = []impl.Frame{
	{}, {Least: 1}, {Least: 9}, {Least: -2}, {Least: math.MaxInt}, {Least: math.MinInt}, {Reds: -1, Least: 2}, {Reds: 16, Least: 2}, {Reds: 15, Colour: true, Least: 2},
	{Reds: 16, Colour: true, Least: 2}, {Reds: -1, Colour: true, Least: 2}, {Reds: 1, Least: 3}, {Reds: 15, Least: 8}, {Reds: 1, Least: 0}, {Reds: 1, Least: 1}, {Colour: true, Least: 3},
	{Colour: true, Least: 8}, {Colour: true}, {Reds: 3, Colour: true, Least: 7}, {Reds: 14, Colour: true, Least: 1}, {Reds: 15}, {Reds: math.MaxInt, Least: 2},
	{Reds: math.MinInt, Least: 2}, {Reds: math.MinInt, Colour: true, Least: math.MinInt}, {Reds: math.MaxInt, Colour: true, Least: math.MaxInt}, {Reds: -1, Least: 8}, {Reds: 16, Least: 8},
}

// noBalls are texts with something that is no ball.
func noBalls() []string {
	texts := []string{"12a", "1 7", " 1", "1\n", "-1", "+1", "1-7", "１", "٢", "1\xff", "\xff\xfe", "é", strings.Repeat("8", 36), strings.Repeat("a", 1<<20)}
	for code := range 256 {
		if code < '1' || code > '7' {
			texts = append(texts, string([]byte{byte(code)}), "17"+string([]byte{byte(code)}))
		}
	}
	return texts
}

// breaksFrom returns all breaks from a frame on, in the order of texts.
func breaksFrom(f impl.Frame) []string {
	var all []string
	var grow func(r rack, balls string)
	grow = func(r rack, balls string) {
		all = append(all, balls)
		for _, ball := range r.may() {
			grow(r.pot(ball), balls+strconv.Itoa(ball))
		}
	}
	grow(newRack(f), "")
	return all
}

func ballPoints(balls string) int {
	sum := 0
	for i := range len(balls) {
		sum += int(balls[i]) - '0'
	}
	return sum
}

func sevens(reds int) string { return strings.Repeat("17", reds) }

func TestIsFrame(t *testing.T) {
	all := everyFrame()
	if len(all) != 37 {
		t.Fatal("there are", len(all), "frames")
	}
	numbers := slices.Clone(wildInts)
	for n := -3; n <= 20; n++ {
		numbers = append(numbers, n)
	}
	for _, reds := range numbers {
		for _, least := range numbers {
			for _, colour := range []bool{false, true} {
				f := frame(reds, colour, least)
				if got := impl.IsFrame(f); got != slices.Contains(all, f) {
					t.Errorf("IsFrame(%v) = %v", f, got)
				}
			}
		}
	}
	for _, f := range wildFrames {
		if impl.IsFrame(f) {
			t.Errorf("IsFrame(%v)", f)
		}
	}
}

func TestFirstFrame(t *testing.T) {
	for _, reds := range append([]int{5, 14, 15, 16, 17}, wildInts...) {
		want, fine := frame(reds, false, 2), reds >= 0 && reds <= 15
		if !fine {
			want = impl.Frame{}
		}
		if got, ok := impl.FirstFrame(reds); got != want || ok != fine {
			t.Errorf("FirstFrame(%d) = %v %v", reds, got, ok)
		}
	}
}

// TestBallsInOrder holds promise 3 for each ball from each frame on.
func TestBallsInOrder(t *testing.T) {
	for _, f := range everyFrame() {
		r := newRack(f)
		next := ""
		for _, ball := range r.may() {
			next += strconv.Itoa(ball)
		}
		if got, ok := impl.NextBalls(f); got != next || !ok {
			t.Errorf("NextBalls(%v) = %q %v, want %q", f, got, ok, next)
		}
		for code := range 256 {
			ball := string([]byte{byte(code)})
			want, fine := impl.Frame{}, strings.Contains(next, ball)
			if fine {
				want = r.pot(code - '0').frame()
			}
			if got, ok := impl.PotBall(f, ball); got != want || ok != fine {
				t.Errorf("PotBall(%v, %q) = %v %v, want %v", f, ball, got, ok, want)
			}
		}
		for _, ball := range []string{"", "11", "12", "17", "71", "22", "23", "67", "78", "234567", "1 ", " 1", "é", "１", strings.Repeat("1", 1<<20)} {
			if got, ok := impl.PotBall(f, ball); got != (impl.Frame{}) || ok {
				t.Errorf("PotBall(%v, %.40q) = %v %v", f, ball, got, ok)
			}
		}
		if got, ok := impl.MissBall(f); got != frame(f.Reds, false, f.Least) || !ok || !impl.IsFrame(got) {
			t.Errorf("MissBall(%v) = %v %v", f, got, ok)
		}
	}
}

func TestNextBalls(t *testing.T) {
	for f, want := range map[impl.Frame]string{
		frame(15, false, 2): "1", frame(1, false, 2): "1", frame(14, true, 2): "234567", frame(0, true, 2): "234567",
		frame(0, false, 2): "2", frame(0, false, 6): "6", frame(0, false, 7): "7", frame(0, false, 8): "",
	} {
		if got, ok := impl.NextBalls(f); got != want || !ok {
			t.Errorf("NextBalls(%v) = %q %v", f, got, ok)
		}
	}
}

func TestPotAndMissBall(t *testing.T) {
	for _, c := range []struct {
		from impl.Frame
		ball string
		want impl.Frame
		fine bool
	}{
		{frame(15, false, 2), "1", frame(14, true, 2), true}, {frame(14, true, 2), "7", frame(14, false, 2), true}, {frame(1, false, 2), "1", frame(0, true, 2), true},
		{frame(0, true, 2), "2", frame(0, false, 2), true}, {frame(0, true, 2), "7", frame(0, false, 2), true}, {frame(0, false, 2), "2", frame(0, false, 3), true},
		{frame(0, false, 7), "7", frame(0, false, 8), true}, {frame(0, false, 2), "7", impl.Frame{}, false}, {frame(0, false, 2), "1", impl.Frame{}, false},
		{frame(0, true, 2), "1", impl.Frame{}, false}, {frame(5, true, 2), "1", impl.Frame{}, false}, {frame(5, false, 2), "2", impl.Frame{}, false},
		{frame(0, false, 8), "8", impl.Frame{}, false}, {frame(0, false, 8), "7", impl.Frame{}, false}, {frame(0, false, 8), "", impl.Frame{}, false},
	} {
		if got, ok := impl.PotBall(c.from, c.ball); got != c.want || ok != c.fine {
			t.Errorf("PotBall(%v, %q) = %v %v", c.from, c.ball, got, ok)
		}
	}
	for from, want := range map[impl.Frame]impl.Frame{
		frame(0, true, 2): frame(0, false, 2), frame(14, true, 2): frame(14, false, 2), frame(3, false, 2): frame(3, false, 2),
		frame(0, false, 5): frame(0, false, 5), frame(0, false, 8): frame(0, false, 8),
	} {
		if got, ok := impl.MissBall(from); got != want || !ok {
			t.Errorf("MissBall(%v) = %v %v", from, got, ok)
		}
	}
}

func checkBreak(t *testing.T, f impl.Frame, balls string) {
	t.Helper()
	r, fine := newRack(f).potText(balls)
	want := impl.Frame{}
	if fine {
		want = r.frame()
	}
	if got, ok := impl.IsBreak(f, balls); got != fine || !ok {
		t.Errorf("IsBreak(%v, %.60q) = %v %v", f, balls, got, ok)
	}
	if got, ok := impl.FrameAfter(f, balls); got != want || ok != fine {
		t.Errorf("FrameAfter(%v, %.60q) = %v %v, want %v", f, balls, got, ok, want)
	}
	if points, ok := impl.PlayFrame(f, []string{balls}); ok != fine || fine && !slices.Equal(points, []int{ballPoints(balls), 0}) || !fine && len(points) != 0 {
		t.Errorf("PlayFrame(%v, %.60q) = %v %v", f, balls, points, ok)
	}
}

// TestBreaks holds promise 3 for all short texts, and for long ones that go wrong somewhere.
func TestBreaks(t *testing.T) {
	texts := append(everyText("1234567", 3), noBalls()...)
	for _, f := range everyFrame() {
		for _, balls := range texts {
			checkBreak(t, f, balls)
		}
	}
	r := rand.New(rand.NewSource(3))
	for range 300 {
		for _, f := range everyFrame() {
			balls := randomBreak(r, f)
			checkBreak(t, f, balls)
			checkBreak(t, f, balls[:r.Intn(len(balls)+1)])
			checkBreak(t, f, balls+strconv.Itoa(1+r.Intn(7)))
			if len(balls) > 0 {
				place := r.Intn(len(balls))
				checkBreak(t, f, balls[:place]+strconv.Itoa(r.Intn(10))+balls[place+1:])
				checkBreak(t, f, balls[:place]+balls[place+1:])
			}
		}
	}
	for _, balls := range []string{sevens(15) + "234567", sevens(15) + "2345677", sevens(16) + "234567", sevens(18), sevens(15) + "234568", sevens(1 << 19)} {
		checkBreak(t, frame(15, false, 2), balls)
		checkBreak(t, frame(14, true, 2), balls[1:])
	}
}

// randomBreak pots all balls.
func randomBreak(r *rand.Rand, f impl.Frame) string {
	balls := ""
	for on := newRack(f); len(on.may()) > 0; {
		ball := on.may()[r.Intn(len(on.may()))]
		balls += strconv.Itoa(ball)
		on = on.pot(ball)
	}
	return balls
}

func TestPointsOf(t *testing.T) {
	for _, balls := range append(everyText("1234567", 4), sevens(15)+"234567", sevens(18), strings.Repeat("7", 36), strings.Repeat("1", 36), "765432", "77") {
		if got, ok := impl.PointsOf(balls); got != ballPoints(balls) || !ok {
			t.Errorf("PointsOf(%q) = %d %v", balls, got, ok)
		}
	}
	for _, balls := range append(noBalls(), strings.Repeat("7", 37), strings.Repeat("1", 37), sevens(15)+"2345672", strings.Repeat("1", 1<<20)) {
		if got, ok := impl.PointsOf(balls); got != 0 || ok {
			t.Errorf("PointsOf(%.60q) = %d %v", balls, got, ok)
		}
	}
}

// clearing returns the break that pots all balls, each colour that one likes being the same.
func clearing(f impl.Frame, liked string) string {
	balls := strings.Repeat("1"+liked, f.Reds) + "234567"[f.Least-2:]
	if f.Colour {
		balls = liked + balls
	}
	return balls
}

// TestHighestBreaks holds promise 3 for the highest break, and the least one that pots all.
func TestHighestBreaks(t *testing.T) {
	for _, f := range everyFrame() {
		highest, least := clearing(f, "7"), clearing(f, "2")
		if got, points, ok := impl.HighestBreak(f); got != highest || points != ballPoints(highest) || !ok {
			t.Errorf("HighestBreak(%v) = %q %d %v, want %q", f, got, points, ok, highest)
		}
		if got, ok := impl.PointsLeft(f); got != ballPoints(highest) || !ok {
			t.Errorf("PointsLeft(%v) = %d %v", f, got, ok)
		}
		if got, ok := impl.LeastBreak(f); got != ballPoints(least) || !ok {
			t.Errorf("LeastBreak(%v) = %d %v", f, got, ok)
		}
		if got, ok := impl.BallsLeft(f); got != len(highest) || !ok {
			t.Errorf("BallsLeft(%v) = %d %v", f, got, ok)
		}
		if after, ok := impl.FrameAfter(f, highest); after != frame(0, false, 8) || !ok {
			t.Errorf("the highest break leads from %v to %v %v", f, after, ok)
		}
	}
	for f, want := range map[impl.Frame][3]int{
		frame(15, false, 2): {147, 72, 36}, frame(14, true, 2): {146, 71, 35}, frame(1, false, 2): {35, 30, 8}, frame(0, true, 2): {34, 29, 7},
		frame(0, false, 2): {27, 27, 6}, frame(0, false, 6): {13, 13, 2}, frame(0, false, 7): {7, 7, 1}, frame(0, false, 8): {0, 0, 0},
	} {
		points, _ := impl.PointsLeft(f)
		least, _ := impl.LeastBreak(f)
		balls, _ := impl.BallsLeft(f)
		if got := [3]int{points, least, balls}; got != want {
			t.Errorf("%v has left %v, want %v", f, got, want)
		}
	}
}

// TestAllBreaksOfSmallFrames holds promise 3 against all breaks, one by one.
func TestAllBreaksOfSmallFrames(t *testing.T) {
	for _, f := range smallFrames() {
		byBalls, byPoints, first := map[int]int{}, map[int]int{}, map[int]string{}
		highest, least := 0, math.MaxInt
		for _, balls := range breaksFrom(f) {
			n := ballPoints(balls)
			byBalls[len(balls)]++
			if byPoints[n]++; byPoints[n] == 1 {
				first[n] = balls
			}
			highest = max(highest, n)
			if r, _ := newRack(f).potText(balls); len(r.may()) == 0 {
				least = min(least, n)
			}
		}
		checkCounts(t, f, byBalls, byPoints, first)
		balls, points, ok := impl.HighestBreak(f)
		if points != highest || byPoints[points] != 1 || first[points] != balls || !ok {
			t.Errorf("HighestBreak(%v) = %q %d %v, want %d", f, balls, points, ok, highest)
		}
		if got, ok := impl.LeastBreak(f); got != least || !ok {
			t.Errorf("LeastBreak(%v) = %d %v, want %d", f, got, ok, least)
		}
	}
}

// checkCounts compares the counts of breaks with known ones: what these do not hold is none.
func checkCounts(t *testing.T, f impl.Frame, byBalls, byPoints map[int]int, first map[int]string) {
	t.Helper()
	for _, n := range append([]int{35, 36, 37, 38}, wildInts...) {
		checkBallCount(t, f, n, byBalls)
	}
	for n := range 40 {
		checkBallCount(t, f, n, byBalls)
	}
	for n := -3; n <= 160; n++ {
		checkPointCount(t, f, n, byPoints, first)
	}
	for _, n := range wildInts {
		checkPointCount(t, f, n, byPoints, first)
	}
}

func checkBallCount(t *testing.T, f impl.Frame, balls int, byBalls map[int]int) {
	t.Helper()
	if got, ok := impl.CountBreaks(f, balls); got != byBalls[balls] || ok != (balls >= 0 && balls <= 36) {
		t.Errorf("CountBreaks(%v, %d) = %d %v, want %d", f, balls, got, ok, byBalls[balls])
	}
}

func checkPointCount(t *testing.T, f impl.Frame, n int, byPoints map[int]int, first map[int]string) {
	t.Helper()
	if got, ok := impl.CountByPoints(f, n); got != byPoints[n] || ok != (n >= 0 && n <= 147) {
		t.Errorf("CountByPoints(%v, %d) = %d %v, want %d", f, n, got, ok, byPoints[n])
	}
	if got, ok := impl.FirstWithPoints(f, n); got != first[n] || ok != (byPoints[n] > 0) {
		t.Errorf("FirstWithPoints(%v, %d) = %q %v, want %q", f, n, got, ok, first[n])
	}
}

// tallies counts the breaks of a frame forward, ball by ball, and keeps the first one of all with as many points.
func tallies(f impl.Frame) (byBalls, byPoints map[int]int, first map[int]string) {
	byBalls, byPoints, first = map[int]int{}, map[int]int{}, map[int]string{}
	last, texts := map[int]int{0: 1}, map[int]string{0: ""}
	for on, balls := newRack(f), 0; len(last) > 0; balls++ {
		next, nextTexts := map[int]int{}, map[int]string{}
		for points, many := range last {
			byBalls[balls] += many
			byPoints[points] += many
			keepLess(first, points, texts[points])
			for _, ball := range on.may() {
				next[points+ball] += many
				keepLess(nextTexts, points+ball, texts[points]+strconv.Itoa(ball))
			}
		}
		last, texts = next, nextTexts
		if len(on.may()) > 0 {
			on = on.pot(on.may()[0])
		}
	}
	return byBalls, byPoints, first
}

func keepLess(texts map[int]string, key int, text string) {
	if old, found := texts[key]; !found || text < old {
		texts[key] = text
	}
}

// TestCountsOfAllFrames holds the counts, none of which comes to MaxBreaks, and the first breaks of greater frames as well.
func TestCountsOfAllFrames(t *testing.T) {
	for _, f := range everyFrame() {
		byBalls, byPoints, first := tallies(f)
		checkCounts(t, f, byBalls, byPoints, first)
		sum := 0
		for _, many := range byPoints {
			sum += many
		}
		if sum > impl.MaxBreaks {
			t.Errorf("%v has %d breaks", f, sum)
		}
	}
	whole := frame(15, false, 2)
	for balls := 30; balls <= 36; balls++ {
		if got, ok := impl.CountBreaks(whole, balls); got != 470184984576 || !ok {
			t.Errorf("CountBreaks of %d balls = %d %v", balls, got, ok)
		}
	}
	for n, want := range map[int]int{0: 1, 1: 1, 2: 0, 3: 1, 4: 2, 147: 1, 146: 15} {
		if got, ok := impl.CountByPoints(whole, n); got != want || !ok {
			t.Errorf("CountByPoints(%d) = %d %v", n, got, ok)
		}
	}
}

func TestFirstBreaks(t *testing.T) {
	for _, c := range []struct {
		f      impl.Frame
		points int
		want   string
		fine   bool
	}{
		{frame(2, false, 2), 5, "131", true}, {frame(2, false, 2), 6, "1212", true}, {frame(2, false, 2), 0, "", true}, {frame(2, false, 2), 1, "1", true},
		{frame(2, false, 2), 2, "", false}, {frame(15, false, 2), 147, sevens(15) + "234567", true}, {frame(15, false, 2), 146, "16" + sevens(14) + "234567", true},
		{frame(15, false, 2), 72, strings.Repeat("12", 15) + "234567", true}, {frame(15, false, 2), 45, strings.Repeat("12", 15), true}, {frame(14, true, 2), 147, "", false}, {frame(14, true, 2), 1, "", false},
		{frame(0, true, 2), 2, "2", true}, {frame(0, true, 2), 4, "22", true}, {frame(0, false, 2), 2, "2", true}, {frame(0, false, 2), 5, "23", true},
		{frame(0, false, 2), 27, "234567", true}, {frame(0, false, 2), 28, "", false}, {frame(0, false, 2), 3, "", false}, {frame(0, false, 8), 0, "", true}, {frame(0, false, 8), 1, "", false},
	} {
		if got, ok := impl.FirstWithPoints(c.f, c.points); got != c.want || ok != c.fine {
			t.Errorf("FirstWithPoints(%v, %d) = %q %v", c.f, c.points, got, ok)
		}
	}
}

func TestLeadsAndFouls(t *testing.T) {
	var numbers []int
	for behind := -5; behind <= 410; behind++ {
		numbers = append(numbers, behind)
	}
	for _, f := range everyFrame() {
		left := ballPoints(clearing(f, "7"))
		for _, behind := range append(numbers, wildInts...) {
			fine, fouls := behind >= 0 && behind <= 400, 0
			for fine && left+4*fouls <= behind {
				fouls++
			}
			if got, ok := impl.CanStillWin(f, behind); got != (fine && left > behind) || ok != fine {
				t.Errorf("CanStillWin(%v, %d) = %v %v", f, behind, got, ok)
			}
			if fouls > 100 {
				fine, fouls = false, 0
			}
			if got, ok := impl.FoulsNeeded(f, behind); got != fouls || ok != fine {
				t.Errorf("FoulsNeeded(%v, %d) = %d %v, want %d %v", f, behind, got, ok, fouls, fine)
			}
		}
	}
	over, pinkOn := frame(0, false, 8), frame(0, false, 6)
	for _, c := range []struct {
		f             impl.Frame
		behind, fouls int
		fine, can     bool
	}{
		{pinkOn, 12, 0, true, true}, {pinkOn, 13, 1, true, false}, {pinkOn, 14, 1, true, false}, {pinkOn, 16, 1, true, false}, {pinkOn, 17, 2, true, false},
		{over, 0, 1, true, false}, {over, 399, 100, true, false}, {over, 400, 0, false, false}, {frame(0, false, 7), 400, 99, true, false}, {frame(15, false, 2), 146, 0, true, true},
	} {
		if got, ok := impl.FoulsNeeded(c.f, c.behind); got != c.fouls || ok != c.fine {
			t.Errorf("FoulsNeeded(%v, %d) = %d %v", c.f, c.behind, got, ok)
		}
		if got, ok := impl.CanStillWin(c.f, c.behind); got != c.can || !ok {
			t.Errorf("CanStillWin(%v, %d) = %v %v", c.f, c.behind, got, ok)
		}
	}
}

// playOf plays breaks in turn on the rack.
func playOf(f impl.Frame, breaks []string) ([]int, bool) {
	points := []int{0, 0}
	if len(breaks) > 100 {
		return nil, false
	}
	r := newRack(f)
	for i, balls := range breaks {
		after, fine := r.potText(balls)
		if !fine {
			return nil, false
		}
		points[i%2] += ballPoints(balls)
		r, r.colour = after, false
	}
	return points, true
}

func checkPlayed(t *testing.T, f impl.Frame, breaks []string) {
	t.Helper()
	kept := slices.Clone(breaks)
	want, fine := playOf(f, breaks)
	if got, ok := impl.PlayFrame(f, breaks); !slices.Equal(got, want) || ok != fine {
		t.Errorf("PlayFrame(%v, %.200q) = %v %v, want %v", f, breaks, got, ok, want)
	}
	if !slices.Equal(breaks, kept) {
		t.Fatalf("PlayFrame changed %q", kept)
	}
}

func TestPlayFrame(t *testing.T) {
	start := frame(2, false, 2)
	for _, c := range []struct {
		f      impl.Frame
		breaks []string
		want   []int
		fine   bool
	}{
		{start, nil, []int{0, 0}, true}, {start, []string{}, []int{0, 0}, true}, {start, []string{""}, []int{0, 0}, true}, {start, []string{"", "17"}, []int{0, 8}, true},
		{start, []string{"1", "1", "23"}, []int{6, 1}, true}, {start, []string{"1", "7"}, nil, false}, {start, []string{"17", "15", "234567"}, []int{35, 6}, true},
		{start, []string{"17", "15", "23", "45", "67", "", ""}, []int{8 + 5 + 13, 6 + 9}, true}, {start, []string{"17", "15", "23", "45", "67", "7"}, nil, false},
		{start, []string{"171", "2"}, []int{9, 2}, true}, {start, []string{"171", "6"}, nil, false}, {start, []string{"", "x"}, nil, false},
		{frame(0, true, 2), []string{"", "2"}, []int{0, 2}, true}, {frame(0, true, 2), []string{"", "7"}, nil, false}, {frame(0, true, 2), []string{"72", "3"}, []int{9, 3}, true},
		{frame(0, false, 8), []string{"", ""}, []int{0, 0}, true}, {frame(0, false, 8), []string{"", "7"}, nil, false},
		{start, []string{"1717234567"}, []int{43, 0}, true}, {start, []string{"", "1717234567"}, []int{0, 43}, true}, {start, slices.Repeat([]string{""}, 100), []int{0, 0}, true},
		{start, slices.Repeat([]string{""}, 101), nil, false}, {start, append(slices.Repeat([]string{""}, 99), "17"), []int{0, 8}, true},
		{start, append(slices.Repeat([]string{""}, 100), "17"), nil, false}, {start, slices.Repeat([]string{""}, 1<<20), nil, false},
	} {
		if got, ok := impl.PlayFrame(c.f, c.breaks); !slices.Equal(got, c.want) || ok != c.fine {
			t.Errorf("PlayFrame(%v, %.100q) = %v %v, want %v", c.f, c.breaks, got, ok, c.want)
		}
		checkPlayed(t, c.f, c.breaks)
	}
	r := rand.New(rand.NewSource(4))
	for range 100 {
		for _, f := range everyFrame() {
			checkPlayed(t, f, randomBreaks(r, f, r.Intn(104)))
		}
	}
}

// randomBreaks returns breaks in turn, most of them short, one of them sometimes wrong.
func randomBreaks(r *rand.Rand, f impl.Frame, many int) []string {
	var breaks []string
	on, wrong := newRack(f), r.Intn(200)
	for i := range many {
		balls := ""
		for len(on.may()) > 0 && r.Intn(3) > 0 {
			ball := on.may()[r.Intn(len(on.may()))]
			balls += strconv.Itoa(ball)
			on = on.pot(ball)
		}
		on.colour = false
		if i == wrong {
			balls += strconv.Itoa(r.Intn(10))
		}
		breaks = append(breaks, balls)
	}
	return breaks
}

func textOf(f impl.Frame) string {
	sign := map[bool]string{true: "c", false: "-"}[f.Colour]
	return strconv.Itoa(f.Reds) + sign + strconv.Itoa(f.Least)
}

func TestFrameTexts(t *testing.T) {
	known := map[string]impl.Frame{}
	for _, f := range everyFrame() {
		text := textOf(f)
		known[text] = f
		if got, ok := impl.FrameText(f); got != text || !ok {
			t.Errorf("FrameText(%v) = %q %v", f, got, ok)
		}
	}
	texts := append(everyText("012589c-", 5), everyText("134567 +C", 4)...)
	for text := range known {
		texts = append(texts, text, " "+text, text+" ", "0"+text, "+"+text, "-"+text, text+"0", text+"\n", text[:len(text)-1], text[1:], strings.ToUpper(text)+"x", text+"\x00", text+text)
	}
	texts = append(texts, "15c2", "16-2", "0c3", "1-3", "00-2", "0-02", "015-2", "0-1", "0-9", "0-10", "0--2", "-0-2", "-1-2", "0C2", "０-2", "0–2", "0-٢", "\xff", "99999999999999999999-2", strings.Repeat("0", 1<<20)+"-2", "0-"+strings.Repeat("2", 1<<20))
	for _, text := range texts {
		want, fine := known[text]
		if got, ok := impl.ParseFrame(text); got != want || ok != fine {
			t.Errorf("ParseFrame(%.60q) = %v %v, want %v", text, got, ok, want)
		}
	}
}

func TestFramesOfTheExample(t *testing.T) {
	whole, _ := impl.ParseFrame("15-2")
	if balls, points, ok := impl.HighestBreak(whole); balls != sevens(15)+"234567" || points != 147 || !ok {
		t.Error("HighestBreak", balls, points, ok)
	}
	if points, ok := impl.LeastBreak(whole); points != 72 || !ok {
		t.Error("LeastBreak", points, ok)
	}
	one, _ := impl.ParseFrame("1-2")
	if many, ok := impl.CountBreaks(one, 2); many != 6 || !ok {
		t.Error("CountBreaks", many, ok)
	}
	behind, ok := impl.FrameAfter(one, "1")
	if text, fine := impl.FrameText(behind); text != "0c2" || !ok || !fine {
		t.Error("FrameAfter", behind, text)
	}
	missed, ok := impl.MissBall(behind)
	if text, fine := impl.FrameText(missed); text != "0-2" || !ok || !fine {
		t.Error("MissBall", missed, text)
	}
	if points, ok := impl.PointsLeft(missed); points != 27 || !ok {
		t.Error("PointsLeft", points, ok)
	}
	pinkOn, _ := impl.ParseFrame("0-6")
	if fouls, ok := impl.FoulsNeeded(pinkOn, 14); fouls != 1 || !ok {
		t.Error("FoulsNeeded", fouls, ok)
	}
}

// TestWildFrames holds promise 11: what is no frame fails everywhere, with zero results.
func TestWildFrames(t *testing.T) {
	for _, f := range wildFrames {
		checkNoFrame(t, f)
		for _, balls := range []string{"", "1", "2", "7", "17", sevens(15) + "234567", "x", strings.Repeat("1", 37)} {
			if got, ok := impl.PotBall(f, balls); got != (impl.Frame{}) || ok {
				t.Errorf("PotBall(%v, %q) = %v %v", f, balls, got, ok)
			}
			if got, ok := impl.IsBreak(f, balls); got || ok {
				t.Errorf("IsBreak(%v, %q) = %v %v", f, balls, got, ok)
			}
			if got, ok := impl.FrameAfter(f, balls); got != (impl.Frame{}) || ok {
				t.Errorf("FrameAfter(%v, %q) = %v %v", f, balls, got, ok)
			}
			if got, ok := impl.PlayFrame(f, []string{balls}); len(got) != 0 || ok {
				t.Errorf("PlayFrame(%v, %q) = %v %v", f, balls, got, ok)
			}
		}
		for _, n := range append([]int{36, 37, 147, 148, 400, 401}, wildInts...) {
			for name, call := range map[string]func(impl.Frame, int) (int, bool){"CountBreaks": impl.CountBreaks, "CountByPoints": impl.CountByPoints, "FoulsNeeded": impl.FoulsNeeded} {
				if got, ok := call(f, n); got != 0 || ok {
					t.Errorf("%s(%v, %d) = %d %v", name, f, n, got, ok)
				}
			}
			if got, ok := impl.FirstWithPoints(f, n); got != "" || ok {
				t.Errorf("FirstWithPoints(%v, %d) = %q %v", f, n, got, ok)
			}
			if got, ok := impl.CanStillWin(f, n); got || ok {
				t.Errorf("CanStillWin(%v, %d) = %v %v", f, n, got, ok)
			}
		}
	}
}

func checkNoFrame(t *testing.T, f impl.Frame) {
	t.Helper()
	for name, call := range map[string]func(impl.Frame) (int, bool){"LeastBreak": impl.LeastBreak, "PointsLeft": impl.PointsLeft, "BallsLeft": impl.BallsLeft} {
		if got, ok := call(f); got != 0 || ok {
			t.Errorf("%s(%v) = %d %v", name, f, got, ok)
		}
	}
	for name, call := range map[string]func(impl.Frame) (string, bool){"NextBalls": impl.NextBalls, "FrameText": impl.FrameText} {
		if got, ok := call(f); got != "" || ok {
			t.Errorf("%s(%v) = %q %v", name, f, got, ok)
		}
	}
	if got, ok := impl.MissBall(f); got != (impl.Frame{}) || ok {
		t.Errorf("MissBall(%v) = %v %v", f, got, ok)
	}
	if balls, points, ok := impl.HighestBreak(f); balls != "" || points != 0 || ok {
		t.Errorf("HighestBreak(%v) = %q %d %v", f, balls, points, ok)
	}
	if got, ok := impl.PlayFrame(f, nil); len(got) != 0 || ok {
		t.Errorf("PlayFrame(%v) of no breaks = %v %v", f, got, ok)
	}
}

func TestPlayFrameKeepsTheRoomBehind(t *testing.T) {
	whole := []string{"17", "1", "23", "x", "", "4"}
	kept := slices.Clone(whole)
	for many := range len(whole) + 1 {
		impl.PlayFrame(frame(2, false, 2), whole[:many])
	}
	if got, ok := impl.PlayFrame(frame(2, false, 2), whole[:3]); !slices.Equal(got, []int{13, 1}) || !ok {
		t.Error("PlayFrame with room behind", got, ok)
	}
	if !slices.Equal(whole, kept) {
		t.Error("the breaks became", whole)
	}
}

func TestPlayFrameResultsAreNew(t *testing.T) {
	breaks := []string{"17", "15", "23"}
	for range 3 {
		got, ok := impl.PlayFrame(frame(2, false, 2), breaks)
		if !slices.Equal(got, []int{13, 6}) || !ok {
			t.Fatal("PlayFrame behind a change of its result", got, ok)
		}
		whole := got[:cap(got)]
		for i := range whole {
			whole[i] = -1
		}
	}
}
