package impl

import (
	"strconv"
	"strings"
)

const MaxLeft = 1001
const MaxVisits = 100

const (
	bull      = 25
	topNumber = 20
	maxVisit  = 3
	maxList   = 9
	bestDart  = topNumber * 3
	bestVisit = bestDart * maxVisit
)

type Dart struct {
	Number int
	Times  int
}

// tally holds, for each score, how many lists of some number of darts have it.
type tally [bestVisit + 1]int

// IsDart reports whether d, whose numbers may be any, is a dart.
func IsDart(d Dart) bool {
	if d.Number == bull {
		return d.Times == 1 || d.Times == 2
	}
	return isBoardNumber(d.Number) && d.Times >= 1 && d.Times <= 3
}

// ScoreOf returns the sum of the scores of 0..9 darts.
func ScoreOf(list []Dart) (int, bool) {
	if len(list) > maxList || !areDarts(list) {
		return 0, false
	}
	sum := 0
	for _, d := range list {
		sum += dartScore(d)
	}
	return sum, true
}

// CanScore reports whether just so many darts can have a score together, in 0..MaxLeft.
func CanScore(score int, darts int) (bool, bool) {
	ways, ok := CountWaysTo(score, darts)
	return ways > 0, ok
}

// CountScores returns how many different scores just so many darts can have.
func CountScores(darts int) (int, bool) {
	if !isDartCount(darts) {
		return 0, false
	}
	scores := 0
	for _, ways := range talliesByDarts()[darts] {
		if ways > 0 {
			scores++
		}
	}
	return scores, true
}

// CountWaysTo returns how many lists of just so many darts have a score. The score is in 0..MaxLeft, as for CanScore.
func CountWaysTo(score int, darts int) (int, bool) {
	if !isLeft(score) || !isDartCount(darts) {
		return 0, false
	}
	if score > bestVisit {
		return 0, true
	}
	return talliesByDarts()[darts][score], true
}

// CanFinish reports whether there is a finish of a number left with at most so many darts.
func CanFinish(left int, darts int) (bool, bool) {
	if !isLeft(left) || !isDartCount(darts) {
		return false, false
	}
	few := fewestByLeft()[left]
	return few > 0 && few <= darts, true
}

// FewestDarts returns the least number of darts of a finish, however great. It fails if there is none: for 0 and 1.
func FewestDarts(left int) (int, bool) {
	if !isLeft(left) {
		return 0, false
	}
	few := fewestByLeft()[left]
	return few, few > 0
}

// FirstFinish returns the first finish with just as few darts as possible, if these are at most darts. It fails if there is none.
func FirstFinish(left int, darts int) ([]Dart, bool) {
	if can, ok := CanFinish(left, darts); !ok || !can {
		return nil, false
	}
	few := fewestByLeft()
	all := allDarts()
	var finish []Dart
search:
	for range darts {
		for _, d := range all {
			rest := left - dartScore(d)
			if rest == 0 && isDouble(d) {
				finish = append(finish, d)
				break search
			}
			if rest > 0 && few[rest] > 0 && few[rest] == few[left]-1 {
				finish = append(finish, d)
				left = rest
				continue search
			}
		}
	}
	return finish, true
}

// CountFinishes returns how many finishes with just so many darts there are.
func CountFinishes(left int, darts int) (int, bool) {
	if !isLeft(left) || !isDartCount(darts) {
		return 0, false
	}
	before := talliesByDarts()[darts-1]
	finishes := 0
	for _, d := range allDarts() {
		rest := left - dartScore(d)
		if isDouble(d) && rest >= 0 && rest <= bestVisit {
			finishes += before[rest]
		}
	}
	return finishes, true
}

// HighestFinish returns the greatest number left that has a finish with at most so many darts.
func HighestFinish(darts int) (int, bool) {
	if !isDartCount(darts) {
		return 0, false
	}
	highest := 0
	for left, few := range fewestByLeft() {
		if few > 0 && few <= darts {
			highest = left
		}
	}
	return highest, true
}

// NoFinishes returns all numbers left, 2 up to most, in 0..MaxLeft, that have no finish with at most so many darts, increasing.
func NoFinishes(most int, darts int) ([]int, bool) {
	if !isLeft(most) || !isDartCount(darts) {
		return nil, false
	}
	few := fewestByLeft()
	var none []int
	for left := 2; left <= most; left++ {
		if few[left] > darts {
			none = append(none, left)
		}
	}
	return none, true
}

// LeftAfter returns what is left behind a visit: it is over as soon as just 0 is left by a double. If less than 0 or just 1 would be left behind a dart, or 0 without a double, it is bust: all is left that was before the visit. It fails if there are darts behind the one that ends it, or makes it bust, or if nothing was left before.
func LeftAfter(left int, visit []Dart) (int, bool) {
	after, _, ok := throwVisit(left, visit)
	return after, ok
}

// IsBust reports whether it is bust. It fails in the same way.
func IsBust(left int, visit []Dart) (bool, bool) {
	_, bust, ok := throwVisit(left, visit)
	return bust, ok
}

// PlayLeg returns what is left at first and behind each of at most MaxVisits visits. It fails in the same way.
func PlayLeg(left int, visits [][]Dart) ([]int, bool) {
	if !isLeft(left) || len(visits) > MaxVisits {
		return nil, false
	}
	lefts := []int{left}
	for _, visit := range visits {
		after, ok := LeftAfter(left, visit)
		if !ok {
			return nil, false
		}
		lefts = append(lefts, after)
		left = after
	}
	return lefts, true
}

// BesideOf returns which numbers stand beside one, 1..20, on the board, counted against the clock and with it: with the clock they are 20, 1, 18, 4, 13, 6, 10, 15, 2, 17, 3, 19, 7, 16, 8, 11, 14, 9, 12, 5, and 20 again.
func BesideOf(number int) (int, int, bool) {
	if !isBoardNumber(number) {
		return 0, 0, false
	}
	ring := boardRing()
	place := placeOnBoard(number)
	return ring[(place+topNumber-1)%topNumber], ring[(place+1)%topNumber], true
}

// StepsAround returns the least number of steps from one of them to another one around the board.
func StepsAround(a int, b int) (int, bool) {
	if !isBoardNumber(a) || !isBoardNumber(b) {
		return 0, false
	}
	withClock := (placeOnBoard(b) - placeOnBoard(a) + topNumber) % topNumber
	return min(withClock, topNumber-withClock), true
}

// BestArc returns the first one, with the clock, of so many numbers side by side, many in 1..20, whose sum is the greatest, of several that which comes first if they are told from 20 on, and this sum.
func BestArc(many int) (int, int, bool) {
	if many < 1 || many > topNumber {
		return 0, 0, false
	}
	ring := boardRing()
	first, best := 0, 0
	for start := range topNumber {
		sum := 0
		for step := range many {
			sum += ring[(start+step)%topNumber]
		}
		if sum > best {
			first, best = ring[start], sum
		}
	}
	return first, best, true
}

// DartText returns the Number, with d ahead if it counts twice, and t if it counts three times.
func DartText(d Dart) (string, bool) {
	if !IsDart(d) {
		return "", false
	}
	number := strconv.Itoa(d.Number)
	switch d.Times {
	case 2:
		return "d" + number, true
	case 3:
		return "t" + number, true
	}
	return number, true
}

// ParseDart returns the dart with a DartText. It fails if there is none.
func ParseDart(s string) (Dart, bool) {
	for _, d := range allDarts() {
		if text, _ := DartText(d); text == s {
			return d, true
		}
	}
	return Dart{}, false
}

// DartsText returns the texts of 1..9 darts with - between them.
func DartsText(list []Dart) (string, bool) {
	if len(list) < 1 || len(list) > maxList || !areDarts(list) {
		return "", false
	}
	var texts []string
	for _, d := range list {
		text, _ := DartText(d)
		texts = append(texts, text)
	}
	return strings.Join(texts, "-"), true
}

// ParseDarts returns the darts with a DartsText. It fails if there are none.
func ParseDarts(s string) ([]Dart, bool) {
	texts := strings.Split(s, "-")
	if len(texts) > maxList {
		return nil, false
	}
	var list []Dart
	for _, text := range texts {
		d, ok := ParseDart(text)
		if !ok {
			return nil, false
		}
		list = append(list, d)
	}
	return list, true
}

func isLeft(left int) bool {
	return left >= 0 && left <= MaxLeft
}

func isDartCount(darts int) bool {
	return darts >= 1 && darts <= maxVisit
}

func isBoardNumber(number int) bool {
	return number >= 1 && number <= topNumber
}

func isDouble(d Dart) bool {
	return d.Times == 2
}

func dartScore(d Dart) int {
	return d.Number * d.Times
}

func areDarts(list []Dart) bool {
	for _, d := range list {
		if !IsDart(d) {
			return false
		}
	}
	return true
}

// allDarts returns every dart in the order of darts: greater scores first, of equal ones greater Times first.
func allDarts() []Dart {
	var all []Dart
	for score := bestDart; score >= 1; score-- {
		for times := 3; times >= 1; times-- {
			d := Dart{Number: score / times, Times: times}
			if score%times == 0 && IsDart(d) {
				all = append(all, d)
			}
		}
	}
	return all
}

// talliesByDarts returns the tallies of the lists of 0..maxVisit darts.
func talliesByDarts() map[int]tally {
	all := allDarts()
	tallies := map[int]tally{0: {0: 1}}
	for darts := 1; darts <= maxVisit; darts++ {
		var next tally
		for score, ways := range tallies[darts-1] {
			if ways == 0 {
				continue
			}
			for _, d := range all {
				next[score+dartScore(d)] += ways
			}
		}
		tallies[darts] = next
	}
	return tallies
}

// fewestByLeft returns the least number of darts of a finish of each number left, 0 where there is no finish.
func fewestByLeft() [MaxLeft + 1]int {
	all := allDarts()
	var fewest [MaxLeft + 1]int
	for left := range fewest {
		for _, d := range all {
			rest := left - dartScore(d)
			darts := 0
			if rest == 0 && isDouble(d) {
				darts = 1
			} else if rest > 0 && fewest[rest] > 0 {
				darts = 1 + fewest[rest]
			}
			if darts > 0 && (fewest[left] == 0 || darts < fewest[left]) {
				fewest[left] = darts
			}
		}
	}
	return fewest
}

// throwVisit returns what is left behind a visit and whether it is bust. It fails as LeftAfter does.
func throwVisit(left int, visit []Dart) (int, bool, bool) {
	if left < 1 || left > MaxLeft || len(visit) < 1 || len(visit) > maxVisit || !areDarts(visit) {
		return 0, false, false
	}
	rest := left
	for i, d := range visit {
		rest -= dartScore(d)
		ended := rest == 0 && isDouble(d)
		bust := rest < 2 && !ended
		if (ended || bust) && i < len(visit)-1 {
			return 0, false, false
		}
		if bust {
			return left, true, true
		}
	}
	return rest, false, true
}

// boardRing returns the numbers of the board with the clock, from 20 on.
func boardRing() [topNumber]int {
	return [topNumber]int{20, 1, 18, 4, 13, 6, 10, 15, 2, 17, 3, 19, 7, 16, 8, 11, 14, 9, 12, 5}
}

// placeOnBoard returns how many steps with the clock a number stands from 20.
func placeOnBoard(number int) int {
	place := 0
	for i, n := range boardRing() {
		if n == number {
			place = i
		}
	}
	return place
}
