package tests

import (
	"math"
	"math/big"
	"slices"
	"testing"

	"loop.example/dualmodes/impl"
)

// limit is the greatest number of a share.
const limit = 1000000000

func share(num, den int) impl.Share { return impl.Share{Num: num, Den: den} }

// edgeNumbers are numbers at the bounds of shares and past them, some of them with many divisors, and some with few.
func edgeNumbers() []int {
	return []int{
		0, 1, 2, 3, 4, 5, 6, 7, 8, 12, 20, 60, 97, 1024, 65536, 99999, 100000, 31622, 31623,
		1 << 29, 333333333, 387420489, 499999999, limit / 2, 500000001, 735134400, 999999937, limit - 2, limit - 1, limit,
		limit + 1, limit + 2, 2*limit - 1, 2 * limit, 1 << 31, 1 << 32, 1<<32 + 1, 1<<32 + 6, limit * limit, math.MaxInt - 1, math.MaxInt,
		-1, -2, -6, 1 - limit, -limit, -limit - 1, -1 << 31, -1 << 32, math.MinInt + 1, math.MinInt,
	}
}

// eachPair calls f with all pairs of small numbers, negative ones among them, and of numbers at the bounds.
func eachPair(f func(a, b int)) {
	for a := -5; a <= 130; a++ {
		for b := -5; b <= 130; b++ {
			f(a, b)
		}
	}
	for _, a := range edgeNumbers() {
		for _, b := range edgeNumbers() {
			f(a, b)
		}
	}
}

// wantShare makes a share by rational numbers, apart from the program.
func wantShare(num, den int) (impl.Share, bool) {
	if num < 0 || num > limit || den < 1 || den > limit {
		return impl.Share{}, false
	}
	return shareOf(big.NewRat(int64(num), int64(den)))
}

// shareOf returns the share that is equal to a rational number, if its numbers are not too great.
func shareOf(r *big.Rat) (impl.Share, bool) {
	most := big.NewInt(limit)
	if r.Sign() < 0 || r.Num().Cmp(most) > 0 || r.Denom().Cmp(most) > 0 {
		return impl.Share{}, false
	}
	return share(int(r.Num().Int64()), int(r.Denom().Int64())), true
}

func ratOf(s impl.Share) *big.Rat { return big.NewRat(int64(s.Num), int64(s.Den)) }

// invalidShares returns shares that are not in lowest terms, and ones past each bound.
func invalidShares() []impl.Share {
	return []impl.Share{
		{}, share(1, 0), share(0, 2), share(0, limit), share(0, limit+1), share(2, 2), share(2, 4), share(6, 3), share(15, 25), share(97, 97*97),
		share(limit, limit), share(limit, 2), share(2, limit), share(limit-1, 3), share(limit/2, limit), share(limit-2, limit),
		share(limit+1, 1), share(1, limit+1), share(limit+1, limit), share(limit, limit+1), share(limit+1, limit+1), share(2*limit, 2*limit),
		share(-1, 1), share(-1, 2), share(1, -1), share(1, -2), share(-1, -1), share(-1, -2), share(0, -1), share(-3, 4), share(-limit, 1), share(1, -limit),
		share(limit, 0), share(-1, 0), share(0, 1<<32+1), share(1<<32+1, 1), share(1, 1<<32+1), share(1<<32, 1),
		share(math.MaxInt, 1), share(1, math.MaxInt), share(math.MaxInt, math.MaxInt), share(math.MaxInt, math.MaxInt-1),
		share(math.MinInt, 1), share(1, math.MinInt), share(math.MinInt, math.MinInt), share(math.MinInt, -1), share(0, math.MinInt), share(math.MaxInt, math.MinInt),
	}
}

// validShares returns small shares, and ones of numbers at the bounds.
func validShares() []impl.Share {
	var shares []impl.Share
	seen := map[impl.Share]bool{}
	add := func(a, b int) {
		if s, ok := wantShare(a, b); ok && !seen[s] {
			seen[s] = true
			shares = append(shares, s)
		}
	}
	for a := range 15 {
		for b := range 15 {
			add(a, b)
		}
	}
	for _, a := range edgeNumbers() {
		for _, b := range edgeNumbers() {
			add(a, b)
		}
	}
	return shares
}

func TestMakeShareAtItsBounds(t *testing.T) {
	for _, c := range []struct {
		num, den int
		want     impl.Share
	}{
		{6, 8, share(3, 4)},
		{3, 4, share(3, 4)},
		{8, 6, share(4, 3)},
		{1, 1, share(1, 1)},
		{7, 7, share(1, 1)},
		{12, 4, share(3, 1)},
		{0, 1, share(0, 1)},
		{0, 8, share(0, 1)},
		{0, limit, share(0, 1)},
		{limit, 1, share(limit, 1)},
		{1, limit, share(1, limit)},
		{limit, limit, share(1, 1)},
		{limit - 1, limit, share(limit-1, limit)},
		{limit, limit - 1, share(limit, limit-1)},
		{limit, 2, share(limit/2, 1)},
		{2, limit, share(1, limit/2)},
		{735134400, 36756720, share(20, 1)},
	} {
		if s, ok := impl.MakeShare(c.num, c.den); !ok || s != c.want {
			t.Errorf("MakeShare(%d, %d) = %v, %v, not %v", c.num, c.den, s, ok, c.want)
		}
	}
	for _, c := range [][2]int{
		{-1, 1}, {limit + 1, 1}, {limit + 1, limit + 1}, {2 * limit, 2}, {1, 0}, {0, 0}, {limit, 0}, {1, limit + 1}, {0, limit + 1}, {2, 2 * limit},
		{-1, -1}, {0, -1}, {1, -1}, {-6, -8}, {-1, 0}, {-limit, limit}, {limit, -limit},
		{math.MinInt, 1}, {math.MaxInt, 1}, {1, math.MinInt}, {1, math.MaxInt}, {math.MaxInt, math.MaxInt}, {math.MinInt, math.MinInt}, {math.MinInt, -1},
	} {
		if s, ok := impl.MakeShare(c[0], c[1]); ok || s != (impl.Share{}) {
			t.Errorf("MakeShare(%d, %d) = %v, %v", c[0], c[1], s, ok)
		}
	}
}

func TestMakeShareAndShareValidOfAllPairs(t *testing.T) {
	eachPair(func(a, b int) {
		want, valid := wantShare(a, b)
		if s, ok := impl.MakeShare(a, b); ok != valid || s != want {
			t.Errorf("MakeShare(%d, %d) = %v, %v, not %v, %v", a, b, s, ok, want, valid)
		}
		lowest := valid && want == share(a, b)
		if ok := impl.ShareValid(share(a, b)); ok != lowest {
			t.Errorf("ShareValid(%d/%d) = %v", a, b, ok)
		}
	})
}

func TestShareValid(t *testing.T) {
	for _, s := range []impl.Share{
		share(0, 1), share(1, 1), share(1, 2), share(2, 1), share(3, 4), share(4, 3), share(8, 9), share(35, 36),
		share(limit, 1), share(1, limit), share(limit, limit-1), share(limit-1, limit), share(limit-1, 1), share(1, limit-1), share(limit, 3), share(3, limit),
	} {
		if !impl.ShareValid(s) {
			t.Errorf("ShareValid(%v) is false", s)
		}
	}
	for _, s := range invalidShares() {
		if impl.ShareValid(s) {
			t.Errorf("ShareValid(%v) is true", s)
		}
	}
}

func TestAddShares(t *testing.T) {
	for _, c := range []struct{ a, b, sum impl.Share }{
		{share(3, 4), share(1, 6), share(11, 12)},
		{share(1, 2), share(1, 2), share(1, 1)},
		{share(1, 4), share(1, 4), share(1, 2)},
		{share(1, 6), share(1, 3), share(1, 2)},
		{share(2, 3), share(5, 3), share(7, 3)},
		{share(2, 3), share(4, 3), share(2, 1)},
		// Nothing, alone and beside the greatest numbers.
		{share(0, 1), share(0, 1), share(0, 1)},
		{share(0, 1), share(3, 4), share(3, 4)},
		{share(0, 1), share(limit, 1), share(limit, 1)},
		{share(0, 1), share(1, limit), share(1, limit)},
		{share(0, 1), share(limit, limit-1), share(limit, limit-1)},
		// A number of the sum is just the greatest one.
		{share(limit-1, 1), share(1, 1), share(limit, 1)},
		{share(limit/2, 1), share(limit/2, 1), share(limit, 1)},
		{share(limit-2, 3), share(2, 3), share(limit, 3)},
		{share(1, limit/2), share(1, limit), share(3, limit)},
		{share(1, 512), share(1, 1953125), share(1953637, limit)},
		{share(limit-2, limit-1), share(2, limit-1), share(limit, limit-1)},
		{share(1, limit), share(limit/2-1, limit/2), share(limit-1, limit)},
		// Numbers that are too great only before the sum is in lowest terms.
		{share(1, limit), share(1, limit), share(1, limit/2)},
		{share(1, limit), share(limit-1, limit), share(1, 1)},
		{share(limit-1, limit), share(limit-1, limit), share(limit-1, limit/2)},
		{share(limit-1, 2), share(limit-1, 2), share(limit-1, 1)},
		{share(limit-1, 2), share(1, 2), share(limit/2, 1)},
		{share(1, limit-1), share(1, limit-1), share(2, limit-1)},
		{share(7, limit-1), share(limit-8, limit-1), share(1, 1)},
		{share(limit-1, 10), share(limit-9, 10), share(limit/5-1, 1)},
	} {
		checkSum(t, c.a, c.b, c.sum, true)
	}
	for _, c := range [][2]impl.Share{
		// One past the greatest number, above and below.
		{share(limit, 1), share(1, 1)},
		{share(limit, 3), share(1, 3)},
		{share(limit-1, 1), share(2, 1)},
		{share(1, 7), share(1, 142857143)},
		// Only one of the two numbers is too great.
		{share(limit, 1), share(limit, 1)},
		{share(1, 100000), share(1, 99999)},
		{share(limit/2, 1), share(1, 3)},
		// Both are, up to the greatest products.
		{share(1, limit-1), share(1, limit)},
		{share(limit, limit-1), share(limit-1, limit)},
		{share(limit, limit-1), share(limit, limit-1)},
		{share(limit, 999999937), share(limit-1, limit)},
		{share(limit, 1), share(1, limit)},
	} {
		checkSum(t, c[0], c[1], impl.Share{}, false)
	}
}

// checkSum checks AddShares in both orders.
func checkSum(t *testing.T, a, b, sum impl.Share, valid bool) {
	t.Helper()
	if s, ok := impl.AddShares(a, b); ok != valid || s != sum {
		t.Errorf("AddShares(%v, %v) = %v, %v, not %v, %v", a, b, s, ok, sum, valid)
	}
	if s, ok := impl.AddShares(b, a); ok != valid || s != sum {
		t.Errorf("AddShares(%v, %v) = %v, %v, not %v, %v", b, a, s, ok, sum, valid)
	}
}

func TestAddSharesAndCompareSharesOfAllPairs(t *testing.T) {
	shares := validShares()
	for i, a := range shares {
		for _, b := range shares[i:] {
			sum, valid := shareOf(new(big.Rat).Add(ratOf(a), ratOf(b)))
			checkSum(t, a, b, sum, valid)
			checkCompare(t, a, b, ratOf(a).Cmp(ratOf(b)))
		}
	}
}

// checkCompare checks CompareShares in both orders.
func checkCompare(t *testing.T, a, b impl.Share, want int) {
	t.Helper()
	if n := impl.CompareShares(a, b); n != want {
		t.Errorf("CompareShares(%v, %v) = %d", a, b, n)
	}
	if n := impl.CompareShares(b, a); n != -want {
		t.Errorf("CompareShares(%v, %v) = %d", b, a, n)
	}
}

func TestCompareShares(t *testing.T) {
	for _, c := range []struct {
		a, b impl.Share
		want int
	}{
		{share(0, 1), share(0, 1), 0},
		{share(0, 1), share(1, limit), -1},
		{share(3, 4), share(3, 4), 0},
		{share(3, 4), share(11, 12), -1},
		{share(1, 2), share(2, 3), -1},
		{share(2, 1), share(1, 2), 1},
		{share(7, 3), share(2, 1), 1},
		{share(limit, 1), share(limit, 1), 0},
		{share(1, limit), share(1, limit), 0},
		{share(limit, limit-1), share(limit, limit-1), 0},
		// Shares that are next to each other, closer than a float tells.
		{share(limit-1, limit), share(limit-2, limit-1), 1},
		{share(limit, limit-1), share(limit-1, limit-2), -1},
		{share(1, limit), share(1, limit-1), -1},
		{share(limit, 1), share(limit-1, 1), 1},
		{share(limit, 1), share(1, limit), 1},
		{share(limit, 3), share(limit-1, 1), -1},
	} {
		checkCompare(t, c.a, c.b, c.want)
	}
}

func TestInvalidSharesAreNeitherAddedNorComparedNorWritten(t *testing.T) {
	for _, bad := range invalidShares() {
		for _, good := range []impl.Share{share(0, 1), share(1, 2), share(2, 1), share(limit, 1), share(1, limit), bad} {
			checkSum(t, bad, good, impl.Share{}, false)
			checkCompare(t, bad, good, 0)
		}
		for _, other := range invalidShares() {
			checkSum(t, bad, other, impl.Share{}, false)
			checkCompare(t, bad, other, 0)
		}
		if s := impl.FormatShare(bad); s != "" {
			t.Errorf("FormatShare(%v) = %q", bad, s)
		}
	}
}

func TestFormatShare(t *testing.T) {
	for _, c := range []struct {
		share impl.Share
		text  string
	}{
		{share(0, 1), "0"},
		{share(1, 1), "1"},
		{share(2, 1), "2"},
		{share(10, 1), "10"},
		{share(1, 2), "1/2"},
		{share(3, 4), "3/4"},
		{share(11, 10), "11/10"},
		{share(limit, 1), "1000000000"},
		{share(1, limit), "1/1000000000"},
		{share(limit, limit-1), "1000000000/999999999"},
	} {
		if s := impl.FormatShare(c.share); s != c.text {
			t.Errorf("FormatShare(%v) = %q, not %q", c.share, s, c.text)
		}
	}
	for _, s := range validShares() {
		if text := impl.FormatShare(s); text != ratOf(s).RatString() {
			t.Errorf("FormatShare(%v) = %q", s, text)
		}
	}
}

func TestSharesOfTasks(t *testing.T) {
	for _, c := range []struct{ text, plain, low, high string }{
		{"", "0", "0", "0"},
		{"2/4 every 8", "0", "1/4", "1/2"},
		{"2 every 8", "1/4", "0", "0"},
		// What is due does not matter, only how often a job comes.
		{"2/4 every 8 by 5", "0", "1/4", "1/2"},
		{"3 every 8 by 3", "3/8", "0", "0"},
		{"2/4 every 8; 1 every 3; 1/2 every 6; 2 every 12", "1/2", "5/12", "5/6"},
		// None is critical, and all are.
		{"1 every 2; 1 every 3; 1 every 7", "41/42", "0", "0"},
		{"1/2 every 2; 1/1 every 3; 1/7 every 7", "0", "41/42", "7/3"},
		// A critical task without more need counts as critical.
		{"3/3 every 4; 3 every 4", "3/4", "3/4", "3/4"},
		{"1/20 every 20; 1/19 every 19; 1/17 every 17; 1/13 every 13; 1/11 every 11", "0", "304189/923780", "5"},
		{"20 every 20; 1 every 1; 7 every 7; 2 every 2; 1/1 every 1", "4", "1", "1"},
		{"1 every 20; 1 every 19; 1 every 17; 1 every 13; 1 every 11", "304189/923780", "0", "0"},
		{"1 every 5; 1 every 5; 1 every 5; 1 every 5; 1 every 5", "1", "0", "0"},
	} {
		list, ok := impl.ParseSet(c.text)
		if !ok {
			t.Fatalf("%q is no text of tasks", c.text)
		}
		if s := impl.FormatShare(impl.LowShare(list, false)); s != c.plain {
			t.Errorf("LowShare of %q that is not critical = %q, not %q", c.text, s, c.plain)
		}
		if s := impl.FormatShare(impl.LowShare(list, true)); s != c.low {
			t.Errorf("LowShare of %q that is critical = %q, not %q", c.text, s, c.low)
		}
		if s := impl.FormatShare(impl.HighShare(list)); s != c.high {
			t.Errorf("HighShare of %q = %q, not %q", c.text, s, c.high)
		}
	}
}

// checkSharesOfTasks checks the shares of tasks against sums of rational numbers.
func checkSharesOfTasks(t *testing.T, list []impl.Task) {
	t.Helper()
	plain, low, high := new(big.Rat), new(big.Rat), new(big.Rat)
	for _, x := range list {
		if x.Critical {
			low.Add(low, big.NewRat(int64(x.Low), int64(x.Every)))
			high.Add(high, big.NewRat(int64(x.High), int64(x.Every)))
		} else {
			plain.Add(plain, big.NewRat(int64(x.Low), int64(x.Every)))
		}
	}
	for _, c := range []struct {
		name string
		got  impl.Share
		want *big.Rat
	}{
		{"LowShare, not critical,", impl.LowShare(list, false), plain},
		{"LowShare, critical,", impl.LowShare(list, true), low},
		{"HighShare", impl.HighShare(list), high},
	} {
		if want, ok := shareOf(c.want); !ok || c.got != want {
			t.Errorf("%s of %v = %v, not %v", c.name, list, c.got, c.want)
		}
	}
}

func TestSharesOfManyTasks(t *testing.T) {
	all := allTasks()
	for i, x := range all {
		list := []impl.Task{x}
		checkSharesOfTasks(t, list)
		for length := 2; length <= 5; length++ {
			list = append(list, all[(i*7919+length*length*631)%len(all)])
			checkSharesOfTasks(t, list)
		}
	}
	eachList(mixedTasks(), func(list []impl.Task) { checkSharesOfTasks(t, list) })
}

// TestSharesOfTasksWithGreatSums takes all periods of five tasks, as their sums have the greatest numbers.
func TestSharesOfTasksWithGreatSums(t *testing.T) {
	var grow func(list []impl.Task, from int)
	grow = func(list []impl.Task, from int) {
		if len(list) == 5 {
			checkSharesOfTasks(t, list)
			return
		}
		for every := from; every <= 20; every++ {
			grow(append(slices.Clone(list), critical(max(1, every-1), every, every, every)), every+1)
		}
	}
	grow(nil, 1)
}

func TestInvalidListsHaveNoShares(t *testing.T) {
	for _, list := range invalidLists() {
		for _, s := range []impl.Share{impl.LowShare(list, false), impl.LowShare(list, true), impl.HighShare(list)} {
			if s != (impl.Share{}) {
				t.Errorf("a share of %s is %v", told(list), s)
			}
		}
	}
	for _, list := range [][]impl.Task{nil, {}, someTasks(5)[:0]} {
		for _, s := range []impl.Share{impl.LowShare(list, false), impl.LowShare(list, true), impl.HighShare(list)} {
			if s != share(0, 1) {
				t.Errorf("a share of no tasks is %v", s)
			}
		}
	}
}

// TestFunctionsOfSharesKeepTheirArguments is about tasks alone: a share is a value, which no function can change for its caller.
func TestFunctionsOfSharesKeepTheirArguments(t *testing.T) {
	lists := invalidLists()
	for length := range 6 {
		lists = append(lists, someTasks(length))
	}
	for _, list := range lists {
		checkUnchanged(t, "LowShare", list, func(list []impl.Task) { impl.LowShare(list, false) })
		checkUnchanged(t, "LowShare", list, func(list []impl.Task) { impl.LowShare(list, true) })
		checkUnchanged(t, "HighShare", list, func(list []impl.Task) { impl.HighShare(list) })
	}
}
