package tests

import (
	"slices"
	"testing"

	"loop.example/trafficguard/impl"
)

// usedBy returns what 8 peers use, of pairs of a peer and its bytes.
func usedBy(pairs ...[2]int) []int {
	used := make([]int, 8)
	for _, pair := range pairs {
		used[pair[0]] = pair[1]
	}
	return used
}

// usedByAll returns what 8 peers use, each one the same.
func usedByAll(bytes int) []int {
	return slices.Repeat([]int{bytes}, 8)
}

// totalUsed adds by hand, so that it does not depend on the program.
func totalUsed(used []int) int {
	total := 0
	for _, n := range used {
		total += n
	}
	return total
}

// smallAccounts returns all valid accounts with a small limit in which three peers may use some.
func smallAccounts() []impl.Account {
	var list []impl.Account
	for limit := 1; limit <= 7; limit++ {
		for each := 1; each <= limit; each++ {
			for a := range each + 1 {
				for b := range min(each, limit-a) + 1 {
					for c := range min(each, limit-a-b) + 1 {
						list = append(list, impl.Account{Limit: limit, Each: each, Used: usedBy([2]int{0, a}, [2]int{3, b}, [2]int{7, c})})
					}
				}
			}
		}
	}
	return list
}

// limitAccounts returns valid accounts with fields or sums at their limits.
func limitAccounts() []impl.Account {
	return []impl.Account{
		{Limit: 1, Each: 1, Used: usedByAll(0)},
		{Limit: 1, Each: 1, Used: usedBy([2]int{7, 1})},
		{Limit: 8, Each: 1, Used: usedByAll(1)},
		{Limit: 9, Each: 8, Used: usedByAll(1)},
		{Limit: 4999, Each: 4999, Used: usedBy([2]int{5, 4999})},
		{Limit: 5000, Each: 1, Used: usedByAll(0)},
		{Limit: 5000, Each: 1, Used: usedByAll(1)},
		{Limit: 5000, Each: 625, Used: usedByAll(625)},
		{Limit: 5000, Each: 5000, Used: usedByAll(625)},
		{Limit: 5000, Each: 5000, Used: usedByAll(0)},
		{Limit: 5000, Each: 5000, Used: usedBy([2]int{0, 5000})},
		{Limit: 5000, Each: 5000, Used: usedBy([2]int{7, 5000})},
		{Limit: 5000, Each: 4999, Used: usedBy([2]int{1, 4999}, [2]int{6, 1})},
		{Limit: 5000, Each: 2500, Used: usedBy([2]int{2, 2500}, [2]int{4, 2499})},
	}
}

func invalidAccounts() []impl.Account {
	list := []impl.Account{{}, {Limit: 100, Each: 60}, {Limit: 100, Used: usedByAll(0)}, {Each: 60, Used: usedByAll(0)}}
	for _, n := range []int{-1, 0, 5001, leastInt, mostInt} {
		list = append(list, impl.Account{Limit: n, Each: 1, Used: usedByAll(0)}, impl.Account{Limit: n, Each: n, Used: usedByAll(0)})
	}
	for _, n := range []int{-1, 0, 101, 5000, leastInt, mostInt} {
		list = append(list, impl.Account{Limit: 100, Each: n, Used: usedByAll(0)}, impl.Account{Limit: 100, Each: n, Used: usedByAll(1)})
	}
	for _, count := range []int{0, 1, 7, 9, 16, 1000} {
		list = append(list, impl.Account{Limit: 100, Each: 60, Used: make([]int, count)})
	}
	for peer := range 8 {
		for _, n := range []int{-1, 61, 100, 101, leastInt, mostInt} {
			list = append(list, impl.Account{Limit: 100, Each: 60, Used: usedBy([2]int{peer, n})})
		}
		// Without the number that is too small or too great, the sum would be right.
		list = append(list, impl.Account{Limit: 100, Each: 60, Used: usedBy([2]int{(peer + 1) % 8, 60}, [2]int{(peer + 2) % 8, 60}, [2]int{peer, -20})})
	}
	return append(list, accountsUsedTooMuch()...)
}

// accountsUsedTooMuch returns accounts whose numbers fit one by one, but not together.
func accountsUsedTooMuch() []impl.Account {
	return []impl.Account{
		{Limit: 100, Each: 60, Used: usedBy([2]int{0, 60}, [2]int{7, 41})},
		{Limit: 1, Each: 1, Used: usedBy([2]int{3, 1}, [2]int{4, 1})},
		{Limit: 7, Each: 1, Used: usedByAll(1)},
		{Limit: 4999, Each: 625, Used: usedByAll(625)},
		{Limit: 5000, Each: 5000, Used: usedBy([2]int{6, 5000}, [2]int{2, 1})},
		{Limit: 5000, Each: 5000, Used: usedByAll(5000)},
		{Limit: 5000, Each: 626, Used: append(slices.Repeat([]int{625}, 7), 626)},
		// The sum of these numbers wraps around to a small one.
		{Limit: 5000, Each: 5000, Used: usedBy([2]int{0, mostInt}, [2]int{1, mostInt}, [2]int{2, 3})},
		{Limit: 5000, Each: 5000, Used: usedBy([2]int{0, leastInt}, [2]int{1, leastInt})},
	}
}

// refusedPeers returns peers that are none.
func refusedPeers() []int {
	return []int{-1, 8, 9, leastInt, mostInt}
}

// sameAccount compares by hand, so that it does not depend on the program.
func sameAccount(a impl.Account, b impl.Account) bool {
	return a.Limit == b.Limit && a.Each == b.Each && slices.Equal(a.Used, b.Used)
}

func isZeroAccount(a impl.Account) bool {
	return sameAccount(a, impl.Account{})
}

// withUsed returns a with another number for a peer.
func withUsed(a impl.Account, peer int, bytes int) impl.Account {
	a.Used = slices.Clone(a.Used)
	a.Used[peer] = bytes
	return a
}

// freeByHand adds one byte after the other, as long as both limits hold.
func freeByHand(a impl.Account, peer int) int {
	free := 0
	for a.Used[peer]+free < a.Each && totalUsed(a.Used)+free < a.Limit {
		free++
	}
	return free
}

func checkNotReserved(t *testing.T, a impl.Account, peer int, bytes int) {
	t.Helper()
	if got, in, ok := impl.Reserve(a, peer, bytes); ok || in || !isZeroAccount(got) {
		t.Errorf("Reserve(%v, %d, %d) = %v, %v, %v", a, peer, bytes, got, in, ok)
	}
}

func checkNotReleased(t *testing.T, a impl.Account, peer int, bytes int) {
	t.Helper()
	if got, ok := impl.Release(a, peer, bytes); ok || !isZeroAccount(got) {
		t.Errorf("Release(%v, %d, %d) = %v, %v", a, peer, bytes, got, ok)
	}
}

// checkNoPeer expects that every function of an account and a peer refuses both.
func checkNoPeer(t *testing.T, a impl.Account, peer int) {
	t.Helper()
	if n, ok := impl.FreeFor(a, peer); ok || n != 0 {
		t.Errorf("FreeFor(%v, %d) = %d, %v", a, peer, n, ok)
	}
	for _, bytes := range []int{0, 1, 50, -1, 5001, leastInt, mostInt} {
		checkNotReserved(t, a, peer, bytes)
		checkNotReleased(t, a, peer, bytes)
	}
}

func checkFree(t *testing.T, a impl.Account, peer int, want int) {
	t.Helper()
	if got, ok := impl.FreeFor(a, peer); !ok || got != want {
		t.Errorf("FreeFor(%v, %d) = %d, %v, want %d", a, peer, got, ok, want)
	}
}

func checkReserved(t *testing.T, a impl.Account, peer int, bytes int, fits bool) {
	t.Helper()
	want := a
	if fits {
		want = withUsed(a, peer, a.Used[peer]+bytes)
	}
	if got, in, ok := impl.Reserve(a, peer, bytes); !ok || in != fits || !sameAccount(got, want) {
		t.Errorf("Reserve(%v, %d, %d) = %v, %v, %v, want %v, %v", a, peer, bytes, got, in, ok, want, fits)
	}
}

func checkReleased(t *testing.T, a impl.Account, peer int, bytes int) {
	t.Helper()
	want := withUsed(a, peer, a.Used[peer]-bytes)
	if got, ok := impl.Release(a, peer, bytes); !ok || !sameAccount(got, want) {
		t.Errorf("Release(%v, %d, %d) = %v, %v, want %v", a, peer, bytes, got, ok, want)
	}
}

func TestNewAccountIsNotUsed(t *testing.T) {
	for _, limit := range []int{1, 2, 100, 4999, 5000} {
		for _, each := range []int{1, 2, limit / 2, limit - 1, limit} {
			if each < 1 || each > limit {
				continue
			}
			a, ok := impl.NewAccount(limit, each)
			if !ok || !sameAccount(a, impl.Account{Limit: limit, Each: each, Used: usedByAll(0)}) || !impl.AccountValid(a) {
				t.Errorf("NewAccount(%d, %d) = %v, %v", limit, each, a, ok)
			}
		}
	}
}

func TestNewAccountRefusesWhatIsNotValid(t *testing.T) {
	cases := [][2]int{{1, 2}, {10, 11}, {100, 5000}, {4999, 5000}, {5000, 5001}, {5001, 5000}, {0, 0}, {-1, -1}, {-1, -2}, {mostInt, mostInt}}
	for _, n := range []int{-1, 0, 5001, leastInt, mostInt} {
		cases = append(cases, [2]int{n, 1})
	}
	for _, n := range []int{-1, 0, 101, leastInt, mostInt} {
		cases = append(cases, [2]int{100, n})
	}
	for _, c := range cases {
		if a, ok := impl.NewAccount(c[0], c[1]); ok || !isZeroAccount(a) {
			t.Errorf("NewAccount(%d, %d) = %v, %v", c[0], c[1], a, ok)
		}
	}
}

func TestAccountsWithinTheLimitsAreValid(t *testing.T) {
	for _, a := range append(smallAccounts(), limitAccounts()...) {
		if !impl.AccountValid(a) {
			t.Errorf("AccountValid(%v) = false", a)
		}
	}
}

func TestInvalidAccountsAreRefused(t *testing.T) {
	for _, a := range invalidAccounts() {
		if impl.AccountValid(a) {
			t.Errorf("AccountValid(%v) = true", a)
		}
		for _, peer := range append(refusedPeers(), 0, 1, 2, 3, 4, 5, 6, 7) {
			checkNoPeer(t, a, peer)
		}
		if over, ok := impl.OverShare(a); ok || len(over) != 0 {
			t.Errorf("OverShare(%v) = %v, %v", a, over, ok)
		}
	}
}

func TestPeersOutsideOfAccountsAreRefused(t *testing.T) {
	for _, a := range append(smallAccounts(), limitAccounts()...) {
		for _, peer := range refusedPeers() {
			checkNoPeer(t, a, peer)
		}
	}
}

func TestAccountSameComparesAllFields(t *testing.T) {
	a := impl.Account{Limit: 100, Each: 60, Used: []int{1, 2, 3, 4, 5, 6, 7, 8}}
	if !impl.AccountSame(a, a) || !impl.AccountSame(a, withUsed(a, 0, 1)) {
		t.Error("equal accounts are not the same")
	}
	others := []impl.Account{{}, {Used: a.Used}, {Limit: 100, Each: 60}, {Limit: 100, Used: a.Used}, {Each: 60, Used: a.Used}}
	for _, n := range []int{-1, 1} {
		others = append(others, impl.Account{Limit: 100 + n, Each: 60, Used: a.Used}, impl.Account{Limit: 100, Each: 60 + n, Used: a.Used})
		// The sum of the fields is the same.
		others = append(others, impl.Account{Limit: 100 + n, Each: 60 - n, Used: a.Used})
		for peer := range 8 {
			others = append(others, withUsed(a, peer, a.Used[peer]+n))
		}
	}
	for _, used := range [][]int{nil, a.Used[:7], a.Used[1:], {1, 2, 3, 4, 5, 6, 7, 8, 0}, {2, 1, 3, 4, 5, 6, 7, 8}, {8, 7, 6, 5, 4, 3, 2, 1}} {
		others = append(others, impl.Account{Limit: 100, Each: 60, Used: used})
	}
	for _, b := range others {
		if impl.AccountSame(a, b) || impl.AccountSame(b, a) {
			t.Errorf("%v and %v are the same", a, b)
		}
	}
}

func TestAccountSameAcceptsInvalidAccounts(t *testing.T) {
	all := invalidAccounts()
	for i, a := range all {
		for j, b := range all {
			if got := impl.AccountSame(a, b); got != sameAccount(a, b) {
				t.Errorf("AccountSame of the accounts %d and %d = %v", i, j, got)
			}
		}
	}
	if !impl.AccountSame(impl.Account{}, impl.Account{Used: []int{}}) || impl.AccountSame(impl.Account{}, impl.Account{Used: []int{0}}) {
		t.Error("accounts without numbers are not compared")
	}
}

func TestBytesThatJustFit(t *testing.T) {
	for _, a := range smallAccounts() {
		for peer := range 8 {
			free := freeByHand(a, peer)
			checkFree(t, a, peer, free)
			for bytes := range free + 3 {
				checkReserved(t, a, peer, bytes, bytes <= free)
			}
		}
	}
	a := impl.Account{Limit: 100, Each: 60, Used: usedBy([2]int{2, 50})}
	checkReserved(t, a, 2, 10, true)
	checkReserved(t, a, 2, 11, false)
	checkReserved(t, a, 3, 50, true)
	checkReserved(t, a, 3, 51, false)
}

func TestBothLimitsOfAnAccount(t *testing.T) {
	a := impl.Account{Limit: 100, Each: 60, Used: usedBy([2]int{2, 50}, [2]int{5, 39})}
	for peer, want := range []int{11, 11, 10, 11, 11, 11, 11, 11} {
		checkFree(t, a, peer, want)
	}
	b := impl.Account{Limit: 5000, Each: 2500, Used: usedBy([2]int{0, 2500}, [2]int{7, 1})}
	for peer, want := range []int{0, 2499, 2499, 2499, 2499, 2499, 2499, 2499} {
		checkFree(t, b, peer, want)
	}
	c := impl.Account{Limit: 5000, Each: 2500, Used: usedBy([2]int{0, 2400}, [2]int{7, 50})}
	for peer, want := range []int{100, 2500, 2500, 2500, 2500, 2500, 2500, 2450} {
		checkFree(t, c, peer, want)
	}
}

func TestAccountsAtTheirLimits(t *testing.T) {
	for _, a := range limitAccounts() {
		for peer := range 8 {
			free := freeByHand(a, peer)
			checkFree(t, a, peer, free)
			checkReserved(t, a, peer, 0, true)
			checkReserved(t, a, peer, free, true)
			for _, bytes := range []int{free + 1, 5001, mostInt - 1, mostInt} {
				checkReserved(t, a, peer, bytes, false)
			}
			checkReleased(t, a, peer, 0)
			checkReleased(t, a, peer, a.Used[peer])
			for _, bytes := range []int{a.Used[peer] + 1, 5001, mostInt} {
				checkNotReleased(t, a, peer, bytes)
			}
		}
	}
}

func TestPeerThatUsesAllItMay(t *testing.T) {
	for _, c := range []struct{ limit, each int }{{1, 1}, {60, 60}, {100, 60}, {5000, 1}, {5000, 5000}} {
		for peer := range 8 {
			a := impl.Account{Limit: c.limit, Each: c.each, Used: usedBy([2]int{peer, c.each})}
			checkFree(t, a, peer, 0)
			checkReserved(t, a, peer, 0, true)
			checkReserved(t, a, peer, 1, false)
			checkFree(t, a, (peer+1)%8, min(c.limit-c.each, c.each))
			checkReleased(t, a, peer, c.each)
			checkNotReleased(t, a, peer, c.each+1)
			checkReserved(t, withUsed(a, peer, 0), peer, c.each, true)
			if over, ok := impl.OverShare(a); !ok || !slices.Equal(over, []int{peer}) {
				t.Errorf("OverShare(%v) = %v, %v", a, over, ok)
			}
		}
	}
}

func TestReleasedBytes(t *testing.T) {
	for _, a := range smallAccounts() {
		for peer := range 8 {
			for bytes := range a.Used[peer] + 1 {
				checkReleased(t, a, peer, bytes)
			}
			checkNotReleased(t, a, peer, a.Used[peer]+1)
			checkNotReleased(t, a, peer, a.Limit+1)
		}
	}
}

func TestNegativeBytesAreRefused(t *testing.T) {
	for _, a := range append(smallAccounts(), limitAccounts()...) {
		for peer := range 8 {
			for _, bytes := range []int{-1, -a.Used[peer] - 1, -5000, leastInt} {
				checkNotReserved(t, a, peer, bytes)
				checkNotReleased(t, a, peer, bytes)
			}
		}
	}
}

// sharesByHand makes one round after the other, and gives one byte at a time.
func sharesByHand(wants []int, bytes int) []int {
	shares := make([]int, len(wants))
	for given := true; given; {
		given = false
		for i, want := range wants {
			if bytes > 0 && shares[i] < want {
				shares[i]++
				bytes--
				given = true
			}
		}
	}
	return shares
}

func checkShares(t *testing.T, wants []int, bytes int, want []int) {
	t.Helper()
	if got, ok := impl.FairShares(wants, bytes); !ok || !slices.Equal(got, want) {
		t.Errorf("FairShares(%v, %d) = %v, %v, want %v", wants, bytes, got, ok, want)
	}
}

func checkNoShares(t *testing.T, wants []int, bytes int) {
	t.Helper()
	if got, ok := impl.FairShares(wants, bytes); ok || len(got) != 0 {
		t.Errorf("FairShares(%v, %d) = %v, %v", wants, bytes, got, ok)
	}
}

// smallWants returns all lists of at most 5 small numbers.
func smallWants() [][]int {
	rows := [][]int{nil}
	var lists [][]int
	for range 6 {
		lists = append(lists, rows...)
		var longer [][]int
		for _, row := range rows {
			for want := range 5 {
				longer = append(longer, append(slices.Clone(row), want))
			}
		}
		rows = longer
	}
	return lists
}

// numberRow returns count numbers below limit that look like thrown ones.
func numberRow(seed int, count int, limit int) []int {
	n := seed
	var row []int
	for range count {
		n = (n*1103515245 + 12345) % 2147483648
		row = append(row, n/65536%limit)
	}
	return row
}

func TestSharesAreGivenInRounds(t *testing.T) {
	for _, wants := range smallWants() {
		for bytes := range totalUsed(wants) + 3 {
			checkShares(t, wants, bytes, sharesByHand(wants, bytes))
		}
	}
}

func TestExampleOfShares(t *testing.T) {
	checkShares(t, []int{3, 10, 50}, 20, []int{3, 9, 8})
	checkShares(t, []int{3, 10, 50}, 19, []int{3, 8, 8})
	checkShares(t, []int{3, 10, 50}, 63, []int{3, 10, 50})
	checkShares(t, []int{3, 10, 50}, 62, []int{3, 10, 49})
	checkShares(t, []int{50, 10, 3}, 20, []int{9, 8, 3})
}

func TestSharesThatDoNotComeOutEven(t *testing.T) {
	checkShares(t, []int{9, 9, 9}, 7, []int{3, 2, 2})
	checkShares(t, []int{9, 9, 9}, 8, []int{3, 3, 2})
	checkShares(t, []int{9, 9, 9}, 9, []int{3, 3, 3})
	checkShares(t, []int{9, 9, 9}, 1, []int{1, 0, 0})
	checkShares(t, []int{0, 9, 0, 9}, 3, []int{0, 2, 0, 1})
	// Those that have what they want are passed over when the last bytes are given.
	checkShares(t, []int{1, 9, 1, 9, 9}, 12, []int{1, 4, 1, 3, 3})
	checkShares(t, []int{5000, 5000, 5000}, 5000, []int{1667, 1667, 1666})
	checkShares(t, []int{1, 5000, 1666, 5000}, 5000, []int{1, 1667, 1666, 1666})
	for count := 1; count <= 16; count++ {
		for _, bytes := range []int{1, count - 1, count, count + 1, 4999, 5000} {
			wants := slices.Repeat([]int{5000}, count)
			shares := make([]int, count)
			for i := range shares {
				shares[i] = bytes / count
				if i < bytes%count {
					shares[i]++
				}
			}
			checkShares(t, wants, bytes, shares)
		}
	}
}

func TestSharesOfAllThatIsWanted(t *testing.T) {
	checkShares(t, []int{3, 1}, 20, []int{3, 1})
	checkShares(t, []int{3, 1}, 4, []int{3, 1})
	checkShares(t, []int{3, 1}, 3, []int{2, 1})
	checkShares(t, []int{5000}, 5000, []int{5000})
	checkShares(t, []int{5000}, 4999, []int{4999})
	checkShares(t, []int{4999}, 5000, []int{4999})
	checkShares(t, []int{0, 0, 0}, 5000, []int{0, 0, 0})
	checkShares(t, []int{7, 5000, 0}, 0, []int{0, 0, 0})
}

func TestSharesOfNoOne(t *testing.T) {
	for _, bytes := range []int{0, 1, 5000} {
		checkShares(t, nil, bytes, nil)
		checkShares(t, []int{}, bytes, nil)
	}
	for _, bytes := range []int{-1, 5001, leastInt, mostInt} {
		checkNoShares(t, nil, bytes)
	}
}

func TestSharesThatAreRefused(t *testing.T) {
	for _, n := range []int{-1, 5001, leastInt, mostInt} {
		for count := 1; count <= 16; count++ {
			for place := range count {
				wants := slices.Repeat([]int{5}, count)
				checkShares(t, wants, 1, sharesByHand(wants, 1))
				wants[place] = n
				for _, bytes := range []int{0, 1, 5000} {
					checkNoShares(t, wants, bytes)
				}
			}
		}
		for _, wants := range [][]int{{0}, {5}, {5, 10}, {5000}} {
			checkNoShares(t, wants, n)
		}
	}
	// The sum of these wants wraps around.
	checkNoShares(t, []int{mostInt, mostInt, 3}, 5)
	for _, count := range []int{17, 18, 64, 1000} {
		checkNoShares(t, make([]int, count), 0)
		checkNoShares(t, slices.Repeat([]int{1}, count), 16)
	}
	checkShares(t, slices.Repeat([]int{1}, 16), 16, slices.Repeat([]int{1}, 16))
}

// TestSharesAreFair looks at rows of many wants: who has less than it wants has no less than others, or one byte less than those in front of it.
func TestSharesAreFair(t *testing.T) {
	for seed := range 600 {
		wants := numberRow(seed, seed%17, []int{3, 40, 700, 5001}[seed%4])
		bytes := numberRow(seed+7, 1, []int{20, 300, 5001}[seed%3])[0]
		shares, ok := impl.FairShares(wants, bytes)
		if !ok || len(shares) != len(wants) || totalUsed(shares) != min(bytes, totalUsed(wants)) {
			t.Fatalf("FairShares(%v, %d) = %v, %v", wants, bytes, shares, ok)
		}
		for i, share := range shares {
			for j, other := range shares {
				unfair := share < wants[i] && (other > share+1 || other > share && j > i)
				if share < 0 || share > wants[i] || unfair {
					t.Errorf("FairShares(%v, %d) = %v", wants, bytes, shares)
				}
			}
		}
		checkShares(t, wants, bytes, sharesByHand(wants, bytes))
	}
}

// overByHand gives out half of what all use one byte after the other, and returns who uses more than it has.
func overByHand(used []int) []int {
	shares := sharesByHand(used, totalUsed(used)/2)
	var over []int
	for peer, n := range used {
		if n > shares[peer] {
			over = append(over, peer)
		}
	}
	return over
}

func checkOver(t *testing.T, a impl.Account, want ...int) {
	t.Helper()
	if got, ok := impl.OverShare(a); !ok || !slices.Equal(got, want) {
		t.Errorf("OverShare(%v) = %v, %v, want %v", a, got, ok, want)
	}
}

func TestPeersOverTheirShare(t *testing.T) {
	for _, a := range append(smallAccounts(), limitAccounts()...) {
		checkOver(t, a, overByHand(a.Used)...)
	}
	for seed := range 300 {
		a := impl.Account{Limit: 5000, Each: 5000, Used: numberRow(seed, 8, []int{2, 4, 30, 626}[seed%4])}
		checkOver(t, a, overByHand(a.Used)...)
	}
}

func TestPeersOverHalfOfWhatAllUse(t *testing.T) {
	account := func(pairs ...[2]int) impl.Account {
		return impl.Account{Limit: 100, Each: 60, Used: usedBy(pairs...)}
	}
	checkOver(t, account())
	checkOver(t, account([2]int{2, 50}, [2]int{1, 10}), 2)
	checkOver(t, account([2]int{4, 1}), 4)
	// Half of 3 is 1, which the first one has; half of 2 is 1, too.
	checkOver(t, account([2]int{3, 1}, [2]int{5, 2}), 5)
	checkOver(t, account([2]int{3, 1}, [2]int{5, 1}), 5)
	checkOver(t, account([2]int{3, 2}, [2]int{5, 1}), 3, 5)
	// Each one that uses more than its share is told, the first peers first.
	checkOver(t, account([2]int{6, 20}, [2]int{0, 20}), 0, 6)
	checkOver(t, account([2]int{7, 20}, [2]int{0, 30}, [2]int{3, 5}), 0, 7)
	checkOver(t, impl.Account{Limit: 5000, Each: 625, Used: usedByAll(625)}, 0, 1, 2, 3, 4, 5, 6, 7)
	// Limit and Each do not matter, but what is used.
	checkOver(t, impl.Account{Limit: 5000, Each: 5000, Used: usedBy([2]int{2, 50}, [2]int{1, 10})}, 2)
}

// overwriteNumbers changes all memory of a list, also that beyond its length.
func overwriteNumbers(list []int) {
	whole := list[:cap(list)]
	for i := range whole {
		whole[i] = 777
	}
}

// accountCalls returns, by name, calls whose result is a list of numbers.
func accountCalls() map[string]func(a impl.Account) []int {
	reserve := func(bytes int) func(a impl.Account) []int {
		return func(a impl.Account) []int {
			got, _, _ := impl.Reserve(a, 2, bytes)
			return got.Used
		}
	}
	release := func(bytes int) func(a impl.Account) []int {
		return func(a impl.Account) []int {
			got, _ := impl.Release(a, 2, bytes)
			return got.Used
		}
	}
	share := func(bytes int) func(a impl.Account) []int {
		return func(a impl.Account) []int {
			got, _ := impl.FairShares(a.Used, bytes)
			return got
		}
	}
	return map[string]func(a impl.Account) []int{
		"Reserve of nothing": reserve(0), "Reserve of what fits": reserve(5), "Reserve of what does not fit": reserve(60),
		"Release of nothing": release(0), "Release of some": release(5), "Release of all": release(20),
		"FairShares of nothing": share(0), "FairShares of some": share(30), "FairShares of all": share(5000),
		"OverShare": func(a impl.Account) []int {
			got, _ := impl.OverShare(a)
			return got
		},
		"NewAccount": func(a impl.Account) []int {
			got, _ := impl.NewAccount(a.Limit, a.Each)
			return got.Used
		},
	}
}

// TestAccountsStayAsTheyAre gives lists with spare capacity, in which a careless append would write.
func TestAccountsStayAsTheyAre(t *testing.T) {
	for name, call := range accountCalls() {
		whole := []int{0, 10, 20, 0, 30, 0, 0, 5, 1, 2, 3, 4, 5, 6, 7, 8, 9}
		before := slices.Clone(whole)
		a := impl.Account{Limit: 100, Each: 60, Used: whole[:8]}
		impl.AccountValid(a)
		impl.AccountSame(a, a)
		impl.FreeFor(a, 2)
		got := call(a)
		if len(got) == 0 || !slices.Equal(whole, before) {
			t.Errorf("%s = %v, and the numbers are %v", name, got, whole)
		}
		overwriteNumbers(got)
		if !slices.Equal(whole, before) {
			t.Errorf("%s shares memory with its argument: %v", name, whole)
		}
	}
}

func TestResultsOfAccountsShareNoMemory(t *testing.T) {
	for name, call := range accountCalls() {
		a := impl.Account{Limit: 100, Each: 60, Used: []int{0, 10, 20, 0, 30, 0, 0, 5}}
		first, second := call(a), call(a)
		want := slices.Clone(second)
		overwriteNumbers(first)
		if !slices.Equal(second, want) || !slices.Equal(call(a), want) {
			t.Errorf("two results of %s share memory", name)
		}
	}
}

// TestNoPeerUsesMoreThanItMay follows rows of calls: each peer uses what it reserved and did not release, and never more than it may.
func TestNoPeerUsesMoreThanItMay(t *testing.T) {
	for seed := range 60 {
		limit := []int{1, 40, 200, 4999, 5000}[seed%5]
		each := max(limit/(1+seed%3), 1)
		a, ok := impl.NewAccount(limit, each)
		if !ok {
			t.Fatalf("NewAccount(%d, %d) is refused", limit, each)
		}
		used := make([]int, 8)
		for _, n := range numberRow(seed, 400, 32768) {
			peer, bytes, fits := n%8, n/8%(each/2+2), true
			var next impl.Account
			if n/64%3 == 0 {
				bytes = -min(bytes, used[peer])
				next, ok = impl.Release(a, peer, -bytes)
			} else {
				next, fits, ok = impl.Reserve(a, peer, bytes)
			}
			mayFit := used[peer]+bytes <= each && totalUsed(used)+bytes <= limit
			if fits {
				used[peer] += bytes
			}
			if !ok || fits != mayFit || !sameAccount(next, impl.Account{Limit: limit, Each: each, Used: used}) {
				t.Fatalf("row %d: %d bytes of the peer %d in %v: %v, %v, %v", seed, bytes, peer, a, next, fits, ok)
			}
			a = next
		}
	}
}
