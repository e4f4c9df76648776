package tests

import (
	"fmt"
	"slices"
	"testing"

	"loop.example/trafficguard/impl"
)

// scoresOf returns all scores with these fields.
func scoresOf(points []int, times []int, ends []int, bans []int) []impl.Score {
	var list []impl.Score
	for _, p := range points {
		for _, at := range times {
			for _, until := range ends {
				for _, b := range bans {
					list = append(list, impl.Score{Points: p, At: at, Until: until, Bans: b})
				}
			}
		}
	}
	return list
}

// smallScores returns scores whose bans ended before, end now, or end soon.
func smallScores() []impl.Score {
	return scoresOf([]int{0, 1, 2, 5, 40, 99}, []int{0, 7}, []int{0, 6, 7, 8, 30, 60, 120}, []int{0, 1, 3})
}

// limitScores returns valid scores with fields at their limits.
func limitScores() []impl.Score {
	return scoresOf([]int{0, 1, 98, 99}, []int{0, 1, 999999, 1000000}, []int{0, 1, 999999, 1000000, 1000001, 1999999, 2000000}, []int{0, 1, 9, 10})
}

func validScores() []impl.Score {
	return append(smallScores(), limitScores()...)
}

func invalidScores() []impl.Score {
	list := []impl.Score{{Points: -1, At: -1, Until: -1, Bans: -1}, {Points: 100, At: 1000001, Until: 2000001, Bans: 11}}
	for _, s := range []impl.Score{{}, {Points: 40, At: 5, Until: 60, Bans: 2}, {Points: 99, At: 1000000, Until: 2000000, Bans: 10}} {
		for _, n := range []int{-1, 100, 101, leastInt, mostInt} {
			spoiled := s
			spoiled.Points = n
			list = append(list, spoiled)
		}
		for _, n := range []int{-1, 1000001, leastInt, mostInt} {
			spoiled := s
			spoiled.At = n
			list = append(list, spoiled)
		}
		for _, n := range []int{-1, 2000001, leastInt, mostInt} {
			spoiled := s
			spoiled.Until = n
			list = append(list, spoiled)
		}
		for _, n := range []int{-1, 11, 63, 64, leastInt, mostInt} {
			spoiled := s
			spoiled.Bans = n
			list = append(list, spoiled)
		}
	}
	return list
}

// timesFrom returns times from that of a score on, at which points go, or a ban ends.
func timesFrom(s impl.Score) []int {
	var times []int
	for _, now := range []int{
		s.At, s.At + 1, s.At + 2, s.At + s.Points - 1, s.At + s.Points, s.At + s.Points + 1,
		s.Until - 1, s.Until, s.Until + 1, 999999, 1000000,
	} {
		if now >= s.At && now <= 1000000 {
			times = append(times, now)
		}
	}
	return times
}

// fadedByHand takes one point with each tick, so that it does not depend on the program.
func fadedByHand(s impl.Score, now int) impl.Score {
	for ; s.At < now && s.Points > 0; s.At++ {
		s.Points--
	}
	s.At = now
	return s
}

// lengthByHand doubles the length of the first ban.
func lengthByHand(bans int) int {
	length := 50
	for range bans {
		length += length
	}
	return length
}

func blamedByHand(s impl.Score, now int, points int) (impl.Score, bool) {
	s = fadedByHand(s, now)
	s.Points += points
	if s.Points <= 99 {
		return s, false
	}
	s.Points = 0
	if end := now + lengthByHand(s.Bans); s.Until < end {
		s.Until = end
	}
	if s.Bans < 10 {
		s.Bans++
	}
	return s, true
}

// checkNotBlamed expects that Blame refuses its arguments.
func checkNotBlamed(t *testing.T, s impl.Score, now int, points int) {
	t.Helper()
	if got, banned, ok := impl.Blame(s, now, points); ok || banned || got != (impl.Score{}) {
		t.Errorf("Blame(%v, %d, %d) = %v, %v, %v", s, now, points, got, banned, ok)
	}
}

// checkNotAt expects that every function of a score and a time refuses both.
func checkNotAt(t *testing.T, s impl.Score, now int) {
	t.Helper()
	if n, ok := impl.PointsAt(s, now); ok || n != 0 {
		t.Errorf("PointsAt(%v, %d) = %d, %v", s, now, n, ok)
	}
	if banned, ok := impl.IsBanned(s, now); ok || banned {
		t.Errorf("IsBanned(%v, %d) = %v, %v", s, now, banned, ok)
	}
	if got, ok := impl.Pardon(s, now); ok || got != (impl.Score{}) {
		t.Errorf("Pardon(%v, %d) = %v, %v", s, now, got, ok)
	}
	for _, points := range []int{0, 1, 60, 100, 1000, -1, 1001} {
		checkNotBlamed(t, s, now, points)
	}
}

func checkPoints(t *testing.T, s impl.Score, now int, want int) {
	t.Helper()
	if got, ok := impl.PointsAt(s, now); !ok || got != want {
		t.Errorf("PointsAt(%v, %d) = %d, %v, want %d", s, now, got, ok, want)
	}
}

func checkBanned(t *testing.T, s impl.Score, now int, want bool) {
	t.Helper()
	if got, ok := impl.IsBanned(s, now); !ok || got != want {
		t.Errorf("IsBanned(%v, %d) = %v, %v, want %v", s, now, got, ok, want)
	}
}

// checkBlamed expects what Blame makes of s, and returns it.
func checkBlamed(t *testing.T, s impl.Score, now int, points int, want impl.Score, bans bool) impl.Score {
	t.Helper()
	got, banned, ok := impl.Blame(s, now, points)
	if !ok || banned != bans || got != want || !impl.ScoreValid(got) {
		t.Errorf("Blame(%v, %d, %d) = %v, %v, %v, want %v, %v", s, now, points, got, banned, ok, want, bans)
	}
	return got
}

func checkPardoned(t *testing.T, s impl.Score, now int) {
	t.Helper()
	want := impl.Score{At: now, Bans: s.Bans}
	if got, ok := impl.Pardon(s, now); !ok || got != want || !impl.ScoreValid(got) {
		t.Errorf("Pardon(%v, %d) = %v, %v, want %v", s, now, got, ok, want)
	}
}

func checkLength(t *testing.T, s impl.Score, want int) {
	t.Helper()
	if got, ok := impl.BanLength(s); !ok || got != want {
		t.Errorf("BanLength(%v) = %d, %v, want %d", s, got, ok, want)
	}
}

func checkFreeAt(t *testing.T, s impl.Score, want int) {
	t.Helper()
	if got, ok := impl.FreeAt(s); !ok || got != want {
		t.Errorf("FreeAt(%v) = %d, %v, want %d", s, got, ok, want)
	}
}

func TestScoreLimitConstants(t *testing.T) {
	if impl.MaxPoints != 100 || impl.BanTime != 50 || impl.MaxBans != 10 {
		t.Errorf("limits = %d, %d, %d", impl.MaxPoints, impl.BanTime, impl.MaxBans)
	}
}

func TestScoresWithinTheLimitsAreValid(t *testing.T) {
	for _, s := range validScores() {
		if !impl.ScoreValid(s) {
			t.Errorf("ScoreValid(%v) = false", s)
		}
	}
}

func TestInvalidScoresAreRefused(t *testing.T) {
	for _, s := range invalidScores() {
		if impl.ScoreValid(s) {
			t.Errorf("ScoreValid(%v) = true", s)
		}
		for _, now := range []int{0, 5, 6, 1000000, s.At, -1, 1000001, leastInt, mostInt} {
			checkNotAt(t, s, now)
		}
		if n, ok := impl.BanLength(s); ok || n != 0 {
			t.Errorf("BanLength(%v) = %d, %v", s, n, ok)
		}
		if n, ok := impl.FreeAt(s); ok || n != 0 {
			t.Errorf("FreeAt(%v) = %d, %v", s, n, ok)
		}
	}
}

// TestTimesOfScoresThatAreRefused has bans that end behind the refused times: also then, no one is said to be banned.
func TestTimesOfScoresThatAreRefused(t *testing.T) {
	for _, s := range validScores() {
		for _, now := range []int{s.At - 1, -1, 1000001, leastInt, mostInt} {
			checkNotAt(t, s, now)
		}
	}
	checkNotAt(t, impl.Score{Points: 40, At: 7, Until: 60}, 0)
	checkNotAt(t, impl.Score{Points: 40, At: 1000000, Until: 2000000}, 999999)
}

func TestOnePointGoesWithEachTick(t *testing.T) {
	for points := range 100 {
		s := impl.Score{Points: points, At: 7, Until: 3, Bans: 4}
		for now := 7; now <= 120; now++ {
			checkPoints(t, s, now, fadedByHand(s, now).Points)
		}
	}
	for _, s := range validScores() {
		for _, now := range timesFrom(s) {
			checkPoints(t, s, now, fadedByHand(s, now).Points)
		}
	}
}

func TestPointsThatAreForgotten(t *testing.T) {
	s := impl.Score{Points: 60, At: 10}
	for _, c := range [][2]int{{10, 60}, {11, 59}, {30, 40}, {69, 1}, {70, 0}, {71, 0}, {100, 0}, {1000000, 0}} {
		checkPoints(t, s, c[0], c[1])
	}
	checkPoints(t, impl.Score{Points: 99}, 98, 1)
	checkPoints(t, impl.Score{Points: 99}, 99, 0)
	checkPoints(t, impl.Score{Points: 99}, 1000000, 0)
	checkPoints(t, impl.Score{Points: 99, At: 1000000}, 1000000, 99)
	checkPoints(t, impl.Score{Points: 99, At: 999950}, 1000000, 49)
	// A ban takes no points, and points do not wait for its end.
	checkPoints(t, impl.Score{Points: 60, At: 10, Until: 500, Bans: 3}, 30, 40)
}

// TestBanThatEndsNow has times in front of the end of a ban, at it, and behind it.
func TestBanThatEndsNow(t *testing.T) {
	s := impl.Score{At: 10, Until: 60, Bans: 1}
	for _, now := range []int{10, 11, 58, 59} {
		checkBanned(t, s, now, true)
	}
	for _, now := range []int{60, 61, 1000000} {
		checkBanned(t, s, now, false)
	}
	checkBanned(t, impl.Score{Points: 99}, 0, false)
	checkBanned(t, impl.Score{Points: 99, Bans: 10}, 0, false)
	checkBanned(t, impl.Score{Until: 1}, 0, true)
	checkBanned(t, impl.Score{Until: 1}, 1, false)
	checkBanned(t, impl.Score{At: 60, Until: 60}, 60, false)
	checkBanned(t, impl.Score{At: 59, Until: 60}, 59, true)
	checkBanned(t, impl.Score{At: 1000000, Until: 1000000}, 1000000, false)
	checkBanned(t, impl.Score{At: 1000000, Until: 1000001}, 1000000, true)
	checkBanned(t, impl.Score{Until: 2000000}, 1000000, true)
	for _, s := range validScores() {
		for _, now := range timesFrom(s) {
			checkBanned(t, s, now, s.Until > now)
		}
	}
}

// TestBlameAtTheEndOfABan counts from now, as the ban before does not go on.
func TestBlameAtTheEndOfABan(t *testing.T) {
	s := impl.Score{Points: 50, At: 59, Until: 60, Bans: 1}
	checkBlamed(t, s, 59, 50, impl.Score{At: 59, Until: 159, Bans: 2}, true)
	checkBlamed(t, s, 60, 51, impl.Score{At: 60, Until: 160, Bans: 2}, true)
	checkBlamed(t, s, 60, 50, impl.Score{Points: 99, At: 60, Until: 60, Bans: 1}, false)
	checkBlamed(t, s, 61, 52, impl.Score{At: 61, Until: 161, Bans: 2}, true)
	checkBlamed(t, s, 61, 51, impl.Score{Points: 99, At: 61, Until: 60, Bans: 1}, false)
}

func TestExampleOfScores(t *testing.T) {
	for _, now := range []int{0, 10, 999999, 1000000} {
		s := checkBlamed(t, impl.Score{}, now, 60, impl.Score{Points: 60, At: now}, false)
		s = checkBlamed(t, s, now, 60, impl.Score{At: now, Until: now + 50, Bans: 1}, true)
		s = checkBlamed(t, s, now, 60, impl.Score{Points: 60, At: now, Until: now + 50, Bans: 1}, false)
		checkBlamed(t, s, now, 60, impl.Score{At: now, Until: now + 100, Bans: 2}, true)
	}
	// The points of the first blame have gone before the second one comes.
	s := checkBlamed(t, impl.Score{}, 10, 60, impl.Score{Points: 60, At: 10}, false)
	checkBlamed(t, s, 30, 60, impl.Score{At: 30, Until: 80, Bans: 1}, true)
	checkBlamed(t, s, 31, 60, impl.Score{Points: 99, At: 31}, false)
	checkBlamed(t, s, 70, 60, impl.Score{Points: 60, At: 70}, false)
	checkBlamed(t, s, 71, 60, impl.Score{Points: 60, At: 71}, false)
}

// TestJustEnoughPoints has for each number of points the one that makes them 99, and the one that makes them 100.
func TestJustEnoughPoints(t *testing.T) {
	for points := range 100 {
		s := impl.Score{Points: points, At: 7, Until: 20, Bans: 2}
		for _, wait := range []int{0, 1, 2, points, points + 1} {
			now := 7 + wait
			left := max(points-wait, 0)
			checkBlamed(t, s, now, 99-left, impl.Score{Points: 99, At: now, Until: 20, Bans: 2}, false)
			banned := impl.Score{At: now, Until: now + 200, Bans: 3}
			for _, enough := range []int{100 - left, 101 - left, 999, 1000} {
				checkBlamed(t, s, now, enough, banned, true)
			}
		}
	}
}

// TestBlameForNothing moves the time on, and bans no one.
func TestBlameForNothing(t *testing.T) {
	for _, s := range validScores() {
		for _, now := range timesFrom(s) {
			checkBlamed(t, s, now, 0, fadedByHand(s, now), false)
		}
	}
	checkBlamed(t, impl.Score{Points: 99, At: 7, Until: 50, Bans: 3}, 7, 0, impl.Score{Points: 99, At: 7, Until: 50, Bans: 3}, false)
	checkBlamed(t, impl.Score{Points: 99, At: 7, Until: 50, Bans: 3}, 8, 0, impl.Score{Points: 98, At: 8, Until: 50, Bans: 3}, false)
}

func TestBlamedScores(t *testing.T) {
	for _, s := range validScores() {
		for _, now := range timesFrom(s) {
			for _, points := range []int{0, 1, 2, 20, 59, 60, 61, 99, 100, 101, 999, 1000} {
				want, banned := blamedByHand(s, now, points)
				checkBlamed(t, s, now, points, want, banned)
			}
		}
	}
}

func TestPointsThatNoOneIsBlamedFor(t *testing.T) {
	for _, s := range validScores() {
		for _, now := range timesFrom(s) {
			for _, points := range []int{-1, -s.Points - 1, -100, 1001, 1002, leastInt, mostInt, mostInt - 99} {
				checkNotBlamed(t, s, now, points)
			}
		}
	}
}

// TestBanWithinABan has bans that end before the one that is going on, with it, and behind it.
func TestBanWithinABan(t *testing.T) {
	for _, until := range []int{0, 19, 20, 21, 69, 70} {
		checkBlamed(t, impl.Score{At: 20, Until: until}, 20, 100, impl.Score{At: 20, Until: 70, Bans: 1}, true)
	}
	for _, until := range []int{71, 72, 500, 1999999, 2000000} {
		checkBlamed(t, impl.Score{At: 20, Until: until}, 20, 100, impl.Score{At: 20, Until: until, Bans: 1}, true)
	}
	// The second ban counts from now on, and not from the end of the first one.
	s := checkBlamed(t, impl.Score{}, 10, 100, impl.Score{At: 10, Until: 60, Bans: 1}, true)
	s = checkBlamed(t, s, 20, 100, impl.Score{At: 20, Until: 120, Bans: 2}, true)
	checkBlamed(t, s, 20, 99, impl.Score{Points: 99, At: 20, Until: 120, Bans: 2}, false)
	// A ban whose end does not change is counted, too.
	s = checkBlamed(t, impl.Score{At: 5, Until: 1000, Bans: 2}, 5, 100, impl.Score{At: 5, Until: 1000, Bans: 3}, true)
	checkBlamed(t, s, 5, 100, impl.Score{At: 5, Until: 1000, Bans: 4}, true)
	checkBlamed(t, impl.Score{At: 5, Until: 51206, Bans: 10}, 5, 100, impl.Score{At: 5, Until: 51206, Bans: 10}, true)
}

func TestBansDouble(t *testing.T) {
	lengths := []int{50, 100, 200, 400, 800, 1600, 3200, 6400, 12800, 25600, 51200}
	s := impl.Score{At: 3}
	for bans, length := range lengths {
		checkLength(t, impl.Score{Bans: bans}, length)
		checkLength(t, impl.Score{Points: 99, At: 1000000, Until: 2000000, Bans: bans}, length)
		checkLength(t, s, length)
		now := s.At + 1
		s = checkBlamed(t, s, now, 100, impl.Score{At: now, Until: now + length, Bans: min(bans+1, 10)}, true)
	}
	for range 5 {
		checkLength(t, s, 51200)
		now := s.At + 1
		s = checkBlamed(t, s, now, 100, impl.Score{At: now, Until: now + 51200, Bans: 10}, true)
	}
}

// TestBansBehindTheLastTime are those of the last times, which end where nothing is a time.
func TestBansBehindTheLastTime(t *testing.T) {
	for bans := range 11 {
		s := impl.Score{Points: 99, At: 1000000, Bans: bans}
		end := 1000000 + lengthByHand(bans)
		s = checkBlamed(t, s, 1000000, 1, impl.Score{At: 1000000, Until: end, Bans: min(bans+1, 10)}, true)
		checkBanned(t, s, 1000000, true)
		checkFreeAt(t, s, end)
		checkPardoned(t, s, 1000000)
	}
}

func TestPardonedPeers(t *testing.T) {
	for _, s := range validScores() {
		for _, now := range timesFrom(s) {
			checkPardoned(t, s, now)
		}
	}
	s, ok := impl.Pardon(impl.Score{Points: 60, At: 10, Until: 500, Bans: 3}, 30)
	if !ok || s != (impl.Score{At: 30, Bans: 3}) {
		t.Errorf("Pardon = %v, %v", s, ok)
	}
	checkPoints(t, s, 30, 0)
	checkBanned(t, s, 30, false)
	checkFreeAt(t, s, 30)
	// What is pardoned is the ban, and not that there was one.
	checkLength(t, s, 400)
	checkBlamed(t, s, 30, 100, impl.Score{At: 30, Until: 430, Bans: 4}, true)
}

func TestFreeWithoutBanAndPoints(t *testing.T) {
	checkFreeAt(t, impl.Score{}, 0)
	checkFreeAt(t, impl.Score{At: 10}, 10)
	checkFreeAt(t, impl.Score{At: 10, Until: 9, Bans: 1}, 10)
	checkFreeAt(t, impl.Score{At: 10, Until: 10, Bans: 1}, 10)
	checkFreeAt(t, impl.Score{At: 10, Until: 11, Bans: 1}, 11)
	checkFreeAt(t, impl.Score{Points: 60, At: 10}, 70)
	checkFreeAt(t, impl.Score{Points: 60, At: 10, Until: 69}, 70)
	checkFreeAt(t, impl.Score{Points: 60, At: 10, Until: 70}, 70)
	checkFreeAt(t, impl.Score{Points: 60, At: 10, Until: 71}, 71)
	checkFreeAt(t, impl.Score{Points: 99, At: 1000000, Bans: 10}, 1000099)
	checkFreeAt(t, impl.Score{Points: 99, At: 1000000, Until: 2000000, Bans: 10}, 2000000)
}

// TestFreeIsTheFirstTime looks for the first time at which a peer has no points and is not banned.
func TestFreeIsTheFirstTime(t *testing.T) {
	for _, s := range smallScores() {
		now := s.At
		for fadedByHand(s, now).Points > 0 || now < s.Until {
			now++
		}
		checkFreeAt(t, s, now)
	}
	for _, s := range limitScores() {
		free := s.At
		for _, end := range []int{s.At + s.Points, s.Until} {
			if end > free {
				free = end
			}
		}
		checkFreeAt(t, s, free)
	}
}

// textOfResults returns all that the functions of a score return.
func textOfResults(s impl.Score, now int, points int) string {
	return fmt.Sprintln(impl.ScoreValid(s)) + fmt.Sprintln(impl.PointsAt(s, now)) + fmt.Sprintln(impl.IsBanned(s, now)) +
		fmt.Sprintln(impl.Blame(s, now, points)) + fmt.Sprintln(impl.Pardon(s, now)) + fmt.Sprintln(impl.BanLength(s)) + fmt.Sprintln(impl.FreeAt(s))
}

// TestScoresStayAsTheyAre calls all functions twice, with others in between: nothing is kept from call to call.
func TestScoresStayAsTheyAre(t *testing.T) {
	list := append(validScores(), invalidScores()...)
	before := slices.Clone(list)
	var first []string
	for _, s := range list {
		first = append(first, textOfResults(s, s.At, 60))
	}
	for i, s := range slices.Backward(list) {
		if second := textOfResults(s, s.At, 60); second != first[i] {
			t.Errorf("the functions of %v return %q, and then %q", s, first[i], second)
		}
	}
	if !slices.Equal(list, before) {
		t.Error("the scores are changed")
	}
}

// TestBlameIsForgottenWithTime follows rows of calls: a peer is banned where enough points come faster than they go, for twice as long each time.
func TestBlameIsForgottenWithTime(t *testing.T) {
	for seed := range 80 {
		var s impl.Score
		points, until, bans := 0, 0, 0
		for _, n := range numberRow(seed, 300, 32768) {
			now, blame := s.At+n%(2+seed%40), n/64%(3+seed*5%130)
			points = max(points-(now-s.At), 0)
			checkPoints(t, s, now, points)
			checkBanned(t, s, now, now < until)
			if n/8192 == 0 && seed%3 == 0 {
				points, until = 0, 0
				checkPardoned(t, s, now)
				s, _ = impl.Pardon(s, now)
				continue
			}
			points += blame
			banned := points >= 100
			if banned {
				points = 0
				until = max(until, now+50*[]int{1, 2, 4, 8, 16, 32, 64, 128, 256, 512, 1024}[bans])
				bans = min(bans+1, 10)
			}
			s = checkBlamed(t, s, now, blame, impl.Score{Points: points, At: now, Until: until, Bans: bans}, banned)
			checkFreeAt(t, s, max(until, now+points))
			checkLength(t, s, lengthByHand(bans))
		}
	}
}

// TestTimeGoesOnInStepsOrAtOnce lets the same time go by with calls in between, and without.
func TestTimeGoesOnInStepsOrAtOnce(t *testing.T) {
	for _, s := range smallScores() {
		slow := s
		for range 130 {
			next, banned, ok := impl.Blame(slow, slow.At+1, 0)
			if !ok || banned {
				t.Fatalf("Blame(%v, %d, 0) = %v, %v, %v", slow, slow.At+1, next, banned, ok)
			}
			slow = next
			want, _ := blamedByHand(s, slow.At, 70)
			if got, _, _ := impl.Blame(slow, slow.At, 70); got != want {
				t.Errorf("Blame(%v, %d, 70) = %v, want %v", slow, slow.At, got, want)
			}
			checkBanned(t, slow, slow.At, slow.At < s.Until)
		}
	}
}
