package tests

import (
	"math"
	"math/big"
	"slices"
	"strings"
	"testing"

	"loop.example/dualmodes/impl"
)

// loads are the sums of the shares of valid tasks, as rational numbers: of those that are not critical, and of those
// that are, with low needs and with high ones.
type loads struct{ a, b, h *big.Rat }

func loadsOf(list []impl.Task) loads {
	l := loads{new(big.Rat), new(big.Rat), new(big.Rat)}
	for _, x := range list {
		low, high := big.NewRat(int64(x.Low), int64(x.Every)), big.NewRat(int64(x.High), int64(x.Every))
		if x.Critical {
			l.b.Add(l.b, low)
			l.h.Add(l.h, high)
		} else {
			l.a.Add(l.a, low)
		}
	}
	return l
}

func plus(a, b *big.Rat) *big.Rat  { return new(big.Rat).Add(a, b) }
func times(a, b *big.Rat) *big.Rat { return new(big.Rat).Mul(a, b) }

// atMostOne reports whether a number is at most 1.
func atMostOne(r *big.Rat) bool { return r.Cmp(big.NewRat(1, 1)) <= 0 }

// wantImplicit finds whether all of some valid tasks are due when their next job comes.
func wantImplicit(list []impl.Task) bool {
	return !slices.ContainsFunc(list, func(x impl.Task) bool { return x.Due < x.Every })
}

func wantPlain(list []impl.Task) bool {
	l := loadsOf(list)
	return wantImplicit(list) && atMostOne(plus(l.a, l.h))
}

// wantFactor finds the factor of valid tasks, apart from the program; nil if there is none.
func wantFactor(list []impl.Task) *big.Rat {
	l, one := loadsOf(list), big.NewRat(1, 1)
	if wantPlain(list) {
		return one
	}
	if !wantImplicit(list) || !atMostOne(plus(l.a, l.b)) || l.a.Cmp(one) == 0 {
		return nil
	}
	return new(big.Rat).Quo(l.b, new(big.Rat).Sub(one, l.a))
}

func wantVirtual(list []impl.Task) bool {
	if wantPlain(list) {
		return true
	}
	l, x := loadsOf(list), wantFactor(list)
	return x != nil && atMostOne(plus(times(x, l.a), l.h))
}

// wantDue finds when the task at a place of valid ones is due in the low mode; nil if that is not told.
func wantDue(list []impl.Task, at int) *big.Rat {
	x := wantFactor(list)
	if x == nil || at < 0 || at >= len(list) {
		return nil
	}
	due := big.NewRat(int64(list[at].Due), 1)
	if list[at].Critical {
		return times(due, x)
	}
	return due
}

func wantLoad(list []impl.Task) *big.Rat {
	l := loadsOf(list)
	if low := plus(l.a, l.b); low.Cmp(l.h) > 0 {
		return low
	}
	return l.h
}

// checkShare checks a share and whether there is one; want is nil if there is none.
func checkShare(t *testing.T, name string, list []impl.Task, got impl.Share, ok bool, want *big.Rat) {
	t.Helper()
	var wanted impl.Share
	if want != nil {
		wanted, _ = shareOf(want)
	}
	if ok != (want != nil) || got != wanted {
		t.Errorf("%s of %s = %v, %v, not %v", name, told(list), got, ok, want)
	}
}

// checkAnswer checks a function that reports something.
func checkAnswer(t *testing.T, name string, list []impl.Task, f func([]impl.Task) bool, want bool) {
	t.Helper()
	if got := f(list); got != want {
		t.Errorf("%s(%s) = %v", name, told(list), got)
	}
}

// checkVirtual checks all of what valid tasks are told about deadlines.
func checkVirtual(t *testing.T, list []impl.Task) {
	t.Helper()
	checkAnswer(t, "Implicit", list, impl.Implicit, wantImplicit(list))
	checkAnswer(t, "HoldsPlain", list, impl.HoldsPlain, wantPlain(list))
	checkAnswer(t, "HoldsVirtual", list, impl.HoldsVirtual, wantVirtual(list))
	x, ok := impl.FactorOf(list)
	checkShare(t, "FactorOf", list, x, ok, wantFactor(list))
	for at := -1; at <= len(list); at++ {
		due, ok := impl.VirtualDue(list, at)
		checkShare(t, "VirtualDue", list, due, ok, wantDue(list, at))
	}
	load, ok := impl.LoadOf(list)
	checkShare(t, "LoadOf", list, load, ok, wantLoad(list))
}

// checkNoVirtual checks that tasks that are not implicit are told nothing; whether they have a load depends on whether they
// are valid.
func checkNoVirtual(t *testing.T, list []impl.Task) {
	t.Helper()
	checkAnswer(t, "Implicit", list, impl.Implicit, false)
	checkAnswer(t, "HoldsPlain", list, impl.HoldsPlain, false)
	checkAnswer(t, "HoldsVirtual", list, impl.HoldsVirtual, false)
	x, ok := impl.FactorOf(list)
	checkShare(t, "FactorOf", list, x, ok, nil)
	for _, at := range []int{0, 1, 2, 3, 4, 5, 6, len(list) - 1, len(list), -1, math.MaxInt, math.MinInt} {
		due, ok := impl.VirtualDue(list, at)
		checkShare(t, "VirtualDue", list, due, ok, nil)
	}
}

func checkNoLoad(t *testing.T, list []impl.Task) {
	t.Helper()
	load, ok := impl.LoadOf(list)
	checkShare(t, "LoadOf", list, load, ok, nil)
}

// formatted writes a share and whether there is one; "none" if there is none.
func formatted(s impl.Share, ok bool) string {
	if !ok {
		return "none"
	}
	return impl.FormatShare(s)
}

// deadlines is what implicit tasks with a text are told: whether they hold, the factor or "none", the load, and when each
// task is due in the low mode, with a space between, or nothing if there is no factor.
type deadlines struct {
	text           string
	plain, virtual bool
	factor, load   string
	dues           string
}

func checkDeadlines(t *testing.T, c deadlines) {
	t.Helper()
	list := tasksOf(t, c.text)
	checkAnswer(t, "Implicit", list, impl.Implicit, true)
	checkAnswer(t, "HoldsPlain", list, impl.HoldsPlain, c.plain)
	checkAnswer(t, "HoldsVirtual", list, impl.HoldsVirtual, c.virtual)
	if x := formatted(impl.FactorOf(list)); x != c.factor {
		t.Errorf("FactorOf(%q) = %s, not %s", c.text, x, c.factor)
	}
	if load := formatted(impl.LoadOf(list)); load != c.load {
		t.Errorf("LoadOf(%q) = %s, not %s", c.text, load, c.load)
	}
	var dues []string
	for at := range list {
		if due, ok := impl.VirtualDue(list, at); ok {
			dues = append(dues, impl.FormatShare(due))
		}
	}
	if s := strings.Join(dues, " "); s != c.dues {
		t.Errorf("VirtualDue of %q = %q, not %q", c.text, s, c.dues)
	}
	checkVirtual(t, list)
}

func TestVirtual(t *testing.T) {
	for _, c := range []deadlines{
		// The document's examples.
		{"4 every 10; 2/6 every 10", true, true, "1", "3/5", "10 10"},
		{"5 every 10; 2/6 every 10", false, true, "2/5", "7/10", "10 4"},
		{"2/6 every 10; 5 every 10", false, true, "2/5", "7/10", "4 10"},
		{"5 every 10; 2/9 every 10", false, false, "2/5", "9/10", "10 4"},
		{"6 every 10; 5/6 every 10", false, false, "none", "11/10", ""},
		{"", true, true, "1", "0", ""},
		// All tasks are critical: plain if their high needs fit, and otherwise never in time.
		{"1/1 every 1", true, true, "1", "1", "1"},
		{"1/20 every 20", true, true, "1", "1", "20"},
		{"1/2 every 4; 2/5 every 10", true, true, "1", "1", "4 10"},
		{"1/2 every 4; 2/6 every 10", false, false, "9/20", "11/10", "9/5 9/2"},
		{"2/2 every 2; 1/1 every 20", false, false, "none", "21/20", ""},
		{"1/2 every 2; 2/3 every 4", false, false, "1", "7/4", "2 4"},
		{"1/20 every 20; 1/20 every 20; 1/20 every 20; 1/20 every 20; 1/20 every 20", false, false, "1/4", "5", "5 5 5 5 5"},
		{"20/20 every 20; 20/20 every 20; 20/20 every 20; 20/20 every 20; 20/20 every 20", false, false, "none", "5", ""},
		// None of them is, which is plain or too much.
		{"1 every 20", true, true, "1", "1/20", "20"},
		{"2 every 4; 5 every 10", true, true, "1", "1", "4 10"},
		{"2 every 4; 6 every 10", false, false, "none", "11/10", ""},
		{"20 every 20; 1 every 1; 7 every 7; 2 every 2; 1 every 20", false, false, "none", "81/20", ""},
		// Those that are not critical need all there is, without critical ones and with them.
		{"1 every 1", true, true, "1", "1", "1"},
		{"10 every 20; 1 every 3; 1 every 6", true, true, "1", "1", "20 3 6"},
		{"20 every 20; 1/1 every 20", false, false, "none", "21/20", ""},
		{"1/20 every 20; 1 every 2; 1 every 3; 1 every 6", false, false, "none", "21/20", ""},
		// They need all but the least rest, with which the factor is 1 or there is none.
		{"19 every 20; 1/1 every 20", true, true, "1", "1", "20 20"},
		{"19 every 20; 1/2 every 20", false, false, "1", "1", "20 20"},
		{"19 every 20; 1/1 every 19", false, false, "none", "381/380", ""},
	} {
		checkDeadlines(t, c)
	}
}

func TestVirtualAtItsBounds(t *testing.T) {
	for _, c := range []deadlines{
		// a + h is just 1, just more, and just less.
		{"1 every 2; 1/2 every 4", true, true, "1", "3/4", "2 4"},
		{"5 every 10; 1/5 every 10", true, true, "1", "3/5", "10 10"},
		{"10 every 20; 1/11 every 20", false, true, "1/10", "11/20", "20 2"},
		{"10 every 20; 1/9 every 20", true, true, "1", "11/20", "20 20"},
		{"1 every 3; 2/4 every 6", true, true, "1", "2/3", "3 6"},
		{"1 every 11; 2 every 13; 1/11 every 17; 1 every 18; 1 every 19", false, true, "48906/537965", "11/17", "11 13 48906/31645 18 19"},
		{"1 every 9; 1/7 every 13; 1 every 16; 4 every 17; 1 every 19", true, true, "1", "7/13", "9 13 16 17 19"},
		// a + b is just 1, where the factor is 1 though they are not plain, just more, and just less.
		{"5 every 10; 5/5 every 10", true, true, "1", "1", "10 10"},
		{"5 every 10; 5/6 every 10", false, false, "1", "1", "10 10"},
		{"5 every 10; 5/10 every 10", false, false, "1", "1", "10 10"},
		{"5 every 10; 6/6 every 10", false, false, "none", "11/10", ""},
		{"1 every 2; 1/3 every 3; 1/2 every 6", false, false, "1", "4/3", "2 3 6"},
		{"1 every 11; 2/3 every 13; 11 every 17; 1/2 every 18; 1 every 19", false, false, "none", "831403/831402", ""},
		{"1 every 9; 7/8 every 13; 1 every 16; 4 every 17; 1 every 19", false, false, "325584/325585", "604655/604656",
			"9 325584/25045 16 17 19"},
		// x times a and h together are just 1, just more, and just less.
		{"5 every 10; 2/8 every 10", false, true, "2/5", "4/5", "10 4"},
		{"1 every 2; 1/2 every 3", false, true, "2/3", "5/6", "2 2"},
		{"10 every 20; 4/16 every 20", false, true, "2/5", "4/5", "20 8"},
		{"10 every 20; 4/17 every 20", false, false, "2/5", "17/20", "20 8"},
		{"10 every 20; 5/16 every 20", false, false, "1/2", "4/5", "20 10"},
		{"11 every 20; 4/16 every 20", false, false, "4/9", "4/5", "20 80/9"},
		{"10 every 20; 4/15 every 20", false, true, "2/5", "3/4", "20 8"},
		{"3 every 17; 1 every 18; 3 every 20; 1/2 every 18; 2/15 every 19", false, false, "9350/35929", "154/171",
			"17 18 20 168300/35929 9350/1891"},
		{"1 every 13; 3 every 17; 3 every 19; 1/3 every 18; 3/13 every 19", false, true, "16133/44496", "97/114",
			"13 17 19 16133/2472 306527/44496"},
		// Numbers that are too great for a share before they are in lowest terms.
		{"1 every 15; 1 every 17; 1 every 16; 2 every 19; 1/10 every 13", false, true, "77520/712231", "10/13", "15 17 16 19 77520/54787"},
		{"1 every 19; 1 every 17; 1 every 14; 3/8 every 19; 2/13 every 20", false, false, "5831/18475", "407/380",
			"19 17 14 110789/18475 23324/3695"},
	} {
		checkDeadlines(t, c)
	}
}

func TestLoadOf(t *testing.T) {
	for _, c := range []struct{ text, load string }{
		{"", "0"},
		{"2 every 8", "1/4"},
		{"1/4 every 8", "1/2"},
		{"3/3 every 8", "3/8"},
		// The low mode has the greater load, the high one, and neither.
		{"5 every 10; 2/6 every 10", "7/10"},
		{"5 every 10; 2/8 every 10", "4/5"},
		{"5 every 10; 2/7 every 10", "7/10"},
		{"1 every 6; 1/2 every 6; 1 every 3", "2/3"},
		// It may be more than there is.
		{"20 every 20; 20 every 20; 20 every 20; 20 every 20; 20/20 every 20", "5"},
		{"1/20 every 20; 1/20 every 20; 1/19 every 20; 1/20 every 20; 1/20 every 20", "99/20"},
		// What is due does not matter.
		{"5 every 10 by 5; 2/6 every 10 by 9", "7/10"},
		{"5 every 10 by 9; 2/8 every 10 by 8", "4/5"},
		{"1 every 20; 1/2 every 19; 1 every 17 by 1; 1/5 every 13; 1 every 11", "121/247"},
	} {
		list := tasksOf(t, c.text)
		if load := formatted(impl.LoadOf(list)); load != c.load {
			t.Errorf("LoadOf(%q) = %s, not %s", c.text, load, c.load)
		}
		checkVirtual(t, list)
	}
}

// TestTasksDueBeforeTheirNextJob changes what is due of each task of lists that hold, which then have a load alone.
func TestTasksDueBeforeTheirNextJob(t *testing.T) {
	for _, text := range []string{
		"2 every 8",
		"1/2 every 8",
		"4 every 10; 2/6 every 10",
		"5 every 10; 2/6 every 10",
		"1 every 20; 1/3 every 19; 1 every 17; 2/4 every 13; 1 every 11",
	} {
		list := tasksOf(t, text)
		checkAnswer(t, "HoldsVirtual", list, impl.HoldsVirtual, true)
		for at, x := range list {
			for due := x.High; due < x.Every; due++ {
				early := slices.Clone(list)
				early[at].Due = due
				checkNoVirtual(t, early)
				checkVirtual(t, early)
			}
		}
	}
	early := tasksOf(t, "1 every 4 by 3; 1/2 every 6 by 5")
	checkNoVirtual(t, early)
	checkVirtual(t, early)
}

func TestVirtualDueOfNoPlace(t *testing.T) {
	for _, text := range []string{"", "3 every 8", "2/4 every 8", "4 every 10; 2/6 every 10", "5 every 10; 2/6 every 10", "1 every 9; 1 every 8; 1 every 7; 1/2 every 9; 1/9 every 10"} {
		list := tasksOf(t, text)
		for at := range list {
			if due, ok := impl.VirtualDue(list, at); !ok || !impl.ShareValid(due) {
				t.Errorf("VirtualDue(%s, %d) = %v, %v", told(list), at, due, ok)
			}
		}
		for _, at := range []int{-1, len(list), -2, -len(list) - 1, len(list) + 1, 5, 6, 1 << 32, -1 << 32, math.MaxInt, math.MinInt} {
			due, ok := impl.VirtualDue(list, at)
			checkShare(t, "VirtualDue", list, due, ok, nil)
		}
	}
	// Tasks behind the end of the list are none of it, and do not count.
	list := tasksOf(t, "5 every 10; 2/6 every 10; 20/20 every 20; 1 every 8 by 7")[:2]
	due, ok := impl.VirtualDue(list, 2)
	checkShare(t, "VirtualDue", list, due, ok, nil)
	checkVirtual(t, list)
}

// implicitTasks returns those of some tasks that are due when their next job comes.
func implicitTasks(tasks []impl.Task) []impl.Task {
	return slices.DeleteFunc(tasks, func(x impl.Task) bool { return x.Due < x.Every })
}

func TestVirtualOfSmallTasks(t *testing.T) {
	checkVirtual(t, nil)
	checkVirtual(t, []impl.Task{})
	for _, x := range allTasks() {
		checkVirtual(t, []impl.Task{x})
	}
	pairs := implicitTasks(smallTasks(7))
	for _, x := range pairs {
		for _, y := range pairs {
			checkVirtual(t, []impl.Task{x, y})
		}
	}
	triples := smallTasks(3)
	for _, x := range triples {
		for _, y := range triples {
			for _, z := range triples {
				checkVirtual(t, []impl.Task{x, y, z})
			}
		}
	}
}

// TestVirtualOfManyTasks takes lists of five tasks that need little, so that there are ones for each case.
func TestVirtualOfManyTasks(t *testing.T) {
	var light []impl.Task
	for _, x := range implicitTasks(allTasks()) {
		if x.Low <= 3 && x.High <= 6 && x.Every >= 7 {
			light = append(light, x)
		}
	}
	seen := map[string]int{}
	for i := range 6000 {
		var list []impl.Task
		for k := range 5 {
			list = append(list, light[(i*7919+k*k*631+k*97+i/7*k)%len(light)])
		}
		checkVirtual(t, list)
		seen[caseOf(list)]++
	}
	for _, name := range []string{"plain", "virtual", "a factor that is too great", "none"} {
		if seen[name] < 100 {
			t.Errorf("the case %s is seen %d times of %v", name, seen[name], seen)
		}
	}
}

// caseOf names what valid implicit tasks hold by.
func caseOf(list []impl.Task) string {
	switch {
	case wantPlain(list):
		return "plain"
	case wantVirtual(list):
		return "virtual"
	case wantFactor(list) != nil:
		return "a factor that is too great"
	}
	return "none"
}

// TestFactorsLeaveTime checks what the factor is for. With jobs due first going first, tasks are in time if their needs
// within what they are due are at most all the time: in the low mode, those of critical ones by their virtual deadlines,
// and after a switch, those of what is left of the others and of critical ones with high needs.
func TestFactorsLeaveTime(t *testing.T) {
	held := 0
	eachList(implicitTasks([]impl.Task{plain(1, 5, 5), plain(2, 9, 9), critical(1, 3, 8, 8), critical(2, 7, 20, 20), critical(1, 1, 13, 13), critical(1, 8, 12, 12)}), func(list []impl.Task) {
		if !impl.HoldsVirtual(list) {
			return
		}
		held++
		needs := new(big.Rat)
		for at, x := range list {
			due, ok := impl.VirtualDue(list, at)
			if !ok || ratOf(due).Cmp(big.NewRat(int64(x.Low), 1)) < 0 || ratOf(due).Cmp(big.NewRat(int64(x.Due), 1)) > 0 {
				t.Fatalf("VirtualDue(%s, %d) = %v, %v", told(list), at, due, ok)
			}
			needs.Add(needs, new(big.Rat).Quo(big.NewRat(int64(x.Low), 1), ratOf(due)))
		}
		if !atMostOne(needs) {
			t.Errorf("%s need %v in the low mode", told(list), needs)
		}
		x, _ := impl.FactorOf(list)
		l := loadsOf(list)
		if needs := plus(times(ratOf(x), l.a), l.h); !atMostOne(needs) {
			t.Errorf("%s need %v after a switch", told(list), needs)
		}
	})
	if held < 100 {
		t.Errorf("only %d lists hold", held)
	}
}

func TestInvalidListsHaveNoDeadlines(t *testing.T) {
	for _, list := range invalidLists() {
		checkNoVirtual(t, list)
		checkNoLoad(t, list)
	}
	// Each task that is not valid, alone and beside ones that hold.
	for _, bad := range invalidTasks() {
		for _, list := range [][]impl.Task{
			{bad},
			{bad, plain(5, 10, 10), critical(2, 6, 10, 10)},
			{plain(5, 10, 10), bad, critical(2, 6, 10, 10)},
			{plain(5, 10, 10), critical(2, 6, 10, 10), bad},
		} {
			checkNoVirtual(t, list)
			checkNoLoad(t, list)
		}
	}
}

func TestTooManyTasksHaveNoDeadlines(t *testing.T) {
	// They would hold if there were not too many.
	for _, kind := range []impl.Task{plain(1, 20, 20), critical(1, 1, 20, 20)} {
		five := slices.Repeat([]impl.Task{kind}, 5)
		checkAnswer(t, "HoldsPlain", five, impl.HoldsPlain, true)
		checkVirtual(t, five)
		for length := 6; length <= 8; length++ {
			list := slices.Repeat([]impl.Task{kind}, length)
			checkNoVirtual(t, list)
			checkNoLoad(t, list)
		}
	}
	five := tasksOf(t, "5 every 20; 5 every 20; 1/3 every 20; 1/3 every 20; 2/6 every 20")
	checkVirtual(t, five)
	checkAnswer(t, "HoldsVirtual", five, impl.HoldsVirtual, true)
	six := append(slices.Clone(five), plain(1, 20, 20))
	checkNoVirtual(t, six)
	checkNoLoad(t, six)
}

func TestFunctionsOfDeadlinesKeepTheirArguments(t *testing.T) {
	check := func(list []impl.Task) {
		for at := -1; at <= len(list); at++ {
			checkUnchanged(t, "VirtualDue", list, func(list []impl.Task) { impl.VirtualDue(list, at) })
		}
		checkUnchanged(t, "Implicit", list, func(list []impl.Task) { impl.Implicit(list) })
		checkUnchanged(t, "FactorOf", list, func(list []impl.Task) { impl.FactorOf(list) })
		checkUnchanged(t, "HoldsVirtual", list, func(list []impl.Task) { impl.HoldsVirtual(list) })
		checkUnchanged(t, "HoldsPlain", list, func(list []impl.Task) { impl.HoldsPlain(list) })
		checkUnchanged(t, "LoadOf", list, func(list []impl.Task) { impl.LoadOf(list) })
	}
	for length := range 8 {
		check(someTasks(length))
		check(slices.Repeat([]impl.Task{critical(1, 2, 17, 17)}, length))
		check(slices.Repeat([]impl.Task{critical(1, 9, 17, 17)}, length))
	}
	check(tasksOf(t, "4 every 10; 2/6 every 10"))
	check(tasksOf(t, "2/6 every 10; 5 every 10"))
	check(tasksOf(t, "5 every 10; 2/9 every 10"))
	check(tasksOf(t, "6 every 10; 5/6 every 10"))
	check(tasksOf(t, "5 every 10; 2/6 every 10 by 9"))
	check([]impl.Task{plain(1, 4, 4), {}, critical(1, 2, 8, 8)})
}
