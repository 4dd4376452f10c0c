package tests

import (
	"math"
	"slices"
	"testing"

	"loop.example/dualmodes/impl"
)

// none stands for a result of 0 and false.
const none = -1

// tasksOf reads the text of tasks.
func tasksOf(t *testing.T, text string) []impl.Task {
	t.Helper()
	list, ok := impl.ParseSet(text)
	if !ok {
		t.Fatalf("%q is no text of tasks", text)
	}
	return list
}

// checkNumber checks a number and whether there is one.
func checkNumber(t *testing.T, name string, list []impl.Task, at int, n int, ok bool, want int) {
	t.Helper()
	if ok != (want != none) || n != max(want, 0) {
		t.Errorf("%s(%s, %d) = %d, %v, not %d", name, told(list), at, n, ok, want)
	}
}

// jobsWithin counts the multiples of every that are less than window, one after the other.
func jobsWithin(every, window int) int {
	n := 0
	for at := 0; at < window; at += every {
		n++
	}
	return n
}

// scanFixed looks at all numbers from start to most for the first one that f returns for itself.
func scanFixed(start, most int, f func(w int) int) int {
	for w := start; w <= most; w++ {
		if f(w) == w {
			return w
		}
	}
	return none
}

// wantLow, wantHigh and wantSwitch find the responses of a task of valid ones, apart from the program.
func wantLow(list []impl.Task, at int) int {
	if at < 0 || at >= len(list) {
		return none
	}
	return scanFixed(list[at].Low, list[at].Due, func(w int) int {
		sum := list[at].Low
		for i := range at {
			sum += list[i].Low * jobsWithin(list[i].Every, w)
		}
		return sum
	})
}

func wantHigh(list []impl.Task, at int) int {
	if at < 0 || at >= len(list) || !list[at].Critical {
		return none
	}
	return scanFixed(list[at].High, list[at].Due, func(w int) int {
		sum := list[at].High
		for i := range at {
			if list[i].Critical {
				sum += list[i].High * jobsWithin(list[i].Every, w)
			}
		}
		return sum
	})
}

func wantSwitch(list []impl.Task, at int) int {
	low := wantLow(list, at)
	if low == none || !list[at].Critical {
		return none
	}
	return scanFixed(list[at].High, list[at].Due, func(w int) int {
		sum := list[at].High
		for i := range at {
			if list[i].Critical {
				sum += list[i].High * jobsWithin(list[i].Every, w)
			} else {
				sum += list[i].High * jobsWithin(list[i].Every, low)
			}
		}
		return sum
	})
}

// checkResponses checks the responses of all places of valid tasks, of the ones beside them, and what follows from them.
func checkResponses(t *testing.T, list []impl.Task) {
	t.Helper()
	low, both, bad := true, true, none
	for at := -1; at <= len(list); at++ {
		wLow, wHigh, wSwitch := wantLow(list, at), wantHigh(list, at), wantSwitch(list, at)
		n, ok := impl.ResponseLow(list, at)
		checkNumber(t, "ResponseLow", list, at, n, ok, wLow)
		n, ok = impl.ResponseHigh(list, at)
		checkNumber(t, "ResponseHigh", list, at, n, ok, wHigh)
		n, ok = impl.ResponseSwitch(list, at)
		checkNumber(t, "ResponseSwitch", list, at, n, ok, wSwitch)
		if at < 0 || at == len(list) {
			continue
		}
		low = low && wLow != none
		holds := wLow != none && !list[at].Critical || wSwitch != none
		both = both && holds
		if !holds && bad == none {
			bad = at
		}
	}
	checkHolds(t, list, low, both, bad)
}

// checkHolds checks whether tasks hold, and which one does not.
func checkHolds(t *testing.T, list []impl.Task, low, both bool, bad int) {
	t.Helper()
	if ok := impl.HoldsLow(list); ok != low {
		t.Errorf("HoldsLow(%s) = %v", told(list), ok)
	}
	if ok := impl.HoldsBoth(list); ok != both {
		t.Errorf("HoldsBoth(%s) = %v", told(list), ok)
	}
	n, ok := impl.FirstBad(list)
	checkNumber(t, "FirstBad", list, 0, n, ok, bad)
}

// checkBusy checks BusyLow against the first tick at which all is done that came before it.
func checkBusy(t *testing.T, list []impl.Task) {
	t.Helper()
	n, ok := impl.BusyLow(list)
	checkNumber(t, "BusyLow", list, 0, n, ok, wantBusy(list))
}

func wantBusy(list []impl.Task) int {
	if len(list) == 0 {
		return none
	}
	came := 0
	for tick := range hyperOf(list) {
		for _, x := range list {
			if tick%x.Every == 0 {
				came += x.Low
			}
		}
		if came == tick+1 {
			return tick + 1
		}
	}
	return none
}

// hyperOf tries all numbers for the least common multiple.
func hyperOf(list []impl.Task) int {
	n := 1
	for !dividedByAll(n, list) {
		n++
	}
	return n
}

func TestDemandOf(t *testing.T) {
	for _, c := range []struct {
		task      impl.Task
		window    int
		low, high int
	}{
		{critical(2, 3, 6, 6), 0, 0, 0},
		{critical(2, 3, 6, 6), 1, 2, 3},
		{critical(2, 3, 6, 6), 5, 2, 3},
		{critical(2, 3, 6, 6), 6, 2, 3},
		{critical(2, 3, 6, 6), 7, 4, 6},
		{critical(2, 3, 6, 6), 12, 4, 6},
		{critical(2, 3, 6, 6), 13, 6, 9},
		// What is due does not matter.
		{critical(2, 3, 3, 6), 7, 4, 6},
		{plain(4, 4, 9), 9, 4, 4},
		{plain(4, 4, 9), 10, 8, 8},
		{plain(1, 1, 1), 7, 7, 7},
		{plain(20, 20, 20), 21, 40, 40},
		{critical(1, 20, 20, 20), 21, 2, 40},
		{plain(1, 1, 1), 1000000, 1000000, 1000000},
		{critical(7, 20, 20, 20), 1000000, 350000, 1000000},
		{critical(7, 19, 19, 19), 1000000, 7 * 52632, 19 * 52632},
		{critical(7, 20, 20, 20), 999980, 349993, 999980},
		{critical(7, 20, 20, 20), 999981, 350000, 1000000},
	} {
		if n, ok := impl.DemandOf(c.task, c.window, false); !ok || n != c.low {
			t.Errorf("DemandOf(%v, %d, false) = %d, %v, not %d", c.task, c.window, n, ok, c.low)
		}
		if n, ok := impl.DemandOf(c.task, c.window, true); !ok || n != c.high {
			t.Errorf("DemandOf(%v, %d, true) = %d, %v, not %d", c.task, c.window, n, ok, c.high)
		}
	}
}

func TestDemandOfAllTasks(t *testing.T) {
	windows := []int{999979, 999980, 999981, 999999, 1000000}
	for w := range 44 {
		windows = append(windows, w)
	}
	type within struct{ every, window int }
	jobs := map[within]int{}
	for every := 1; every <= 20; every++ {
		for _, w := range windows {
			jobs[within{every, w}] = jobsWithin(every, w)
		}
	}
	for _, x := range allTasks() {
		for _, w := range windows {
			n := jobs[within{x.Every, w}]
			if d, ok := impl.DemandOf(x, w, false); !ok || d != x.Low*n {
				t.Errorf("DemandOf(%v, %d, false) = %d, %v, not %d", x, w, d, ok, x.Low*n)
			}
			if d, ok := impl.DemandOf(x, w, true); !ok || d != x.High*n {
				t.Errorf("DemandOf(%v, %d, true) = %d, %v, not %d", x, w, d, ok, x.High*n)
			}
		}
	}
}

func TestDemandOfInvalidArguments(t *testing.T) {
	refuse := func(x impl.Task, window int) {
		for _, high := range []bool{false, true} {
			if n, ok := impl.DemandOf(x, window, high); ok || n != 0 {
				t.Errorf("DemandOf(%v, %d, %v) = %d, %v", x, window, high, n, ok)
			}
		}
	}
	past := []int{-1, 1000001, -2, -6, -1000000, 1000002, 2000000, 1 << 32, 1<<32 + 6, -1 << 32, math.MaxInt, math.MaxInt - 20, math.MinInt, math.MinInt + 1}
	for _, x := range allTasks() {
		for _, window := range past {
			refuse(x, window)
		}
	}
	for _, x := range invalidTasks() {
		for _, window := range append([]int{0, 1, 6, 7, 1000000}, past...) {
			refuse(x, window)
		}
	}
}

// response is what the three responses of the task at a place have to be.
type response struct {
	text                string
	at                  int
	low, high, atSwitch int
}

func checkResponse(t *testing.T, c response) {
	t.Helper()
	list := tasksOf(t, c.text)
	n, ok := impl.ResponseLow(list, c.at)
	checkNumber(t, "ResponseLow", list, c.at, n, ok, c.low)
	n, ok = impl.ResponseHigh(list, c.at)
	checkNumber(t, "ResponseHigh", list, c.at, n, ok, c.high)
	n, ok = impl.ResponseSwitch(list, c.at)
	checkNumber(t, "ResponseSwitch", list, c.at, n, ok, c.atSwitch)
	checkResponses(t, list)
}

func TestResponses(t *testing.T) {
	for _, c := range []response{
		// The document's example, and the task before.
		{"1 every 4; 2/3 every 6", 1, 3, 3, 4},
		{"1 every 4; 2/3 every 6", 0, 1, none, none},
		// A response that is just Due, and one that would be one greater, with each of the responses.
		{"2 every 4; 3 every 10 by 7", 1, 7, none, none},
		{"2 every 4; 3 every 10 by 6", 1, none, none, none},
		{"2 every 4; 2/5 every 10 by 8", 1, 4, 5, 7},
		{"2 every 4; 2/5 every 10 by 7", 1, 4, 5, 7},
		{"2 every 4; 2/5 every 10 by 6", 1, 4, 5, none},
		{"1/2 every 4; 2/3 every 10 by 7", 1, 3, 7, 7},
		{"1/2 every 4; 2/3 every 10 by 6", 1, 3, none, none},
		{"3 every 4; 1/1 every 8 by 4", 1, 4, 1, 4},
		{"3 every 4; 1/1 every 8 by 3", 1, none, 1, none},
		// A window that is a multiple of Every ends with no job more, one past it does.
		{"2 every 4; 2 every 8", 1, 4, none, none},
		{"2 every 4; 3 every 9", 1, 7, none, none},
		{"2 every 4; 4 every 8", 1, 8, none, none},
		{"2 every 4; 5 every 20", 1, 11, none, none},
		{"2/2 every 4; 4/4 every 8", 1, 8, 8, 8},
		{"2/2 every 4; 4/5 every 8", 1, 8, none, none},
		{"2/2 every 4; 4/5 every 12", 1, 8, 11, 11},
		// A need that is just Due, alone and behind another task.
		{"5 every 10 by 5", 0, 5, none, none},
		{"20 every 20", 0, 20, none, none},
		{"2/5 every 10 by 5", 0, 2, 5, 5},
		{"5/5 every 10 by 5", 0, 5, 5, 5},
		{"1/20 every 20", 0, 1, 20, 20},
		{"1 every 10; 5 every 10 by 5", 1, none, none, none},
		{"1 every 10; 2/5 every 10 by 5", 1, 3, 5, none},
		{"1/1 every 10; 2/5 every 10 by 5", 1, 3, none, none},
		{"1 every 10; 5/5 every 10 by 5", 1, none, 5, none},
		// Tasks that need all of the time, and more.
		{"1 every 1; 1 every 20", 1, none, none, none},
		{"1 every 1; 1/20 every 20", 1, none, 20, none},
		{"1/1 every 1; 1/1 every 20", 1, none, none, none},
		{"20 every 20; 1/1 every 20", 1, none, 1, none},
		{"3 every 4; 4 every 20; 1/1 every 20", 2, 20, 1, 20},
		{"3 every 4; 5 every 20; 1/1 every 20", 2, none, 1, none},
		{"2/3 every 4; 5/5 every 20; 1/1 every 20", 2, 12, none, none},
		// What comes later in the list does not matter.
		{"2/3 every 6; 5 every 5; 5/5 every 5", 0, 2, 3, 3},
		{"1 every 4; 2/3 every 6; 20/20 every 20; 20 every 20; 1 every 1", 1, 3, 3, 4},
		// What is due matters for the task alone, not for those before it.
		{"1 every 4 by 1; 2/3 every 6", 1, 3, 3, 4},
		// The last place of as many as there may be, none or all of them critical.
		{"1 every 5; 1 every 5; 1 every 5; 1 every 5; 1 every 5", 4, 5, none, none},
		{"1 every 5; 1 every 5; 1 every 5; 1 every 5; 2 every 5", 4, none, none, none},
		{"1/1 every 5; 1/1 every 5; 1/1 every 5; 1/1 every 5; 1/1 every 5", 4, 5, 5, 5},
		{"1/1 every 5; 1/1 every 5; 1/1 every 5; 1/1 every 5; 1/2 every 5", 4, 5, none, none},
		{"1 every 20; 1 every 19; 1/2 every 17; 1 every 13; 1/9 every 14", 4, 5, 11, 14},
	} {
		checkResponse(t, c)
	}
}

// TestResponsesAtASwitch takes tasks before that count in the window of the low response alone, as they are not critical,
// and critical ones that count in the whole window.
func TestResponsesAtASwitch(t *testing.T) {
	for _, c := range []response{
		{"1 every 3; 2/6 every 12", 1, 3, 6, 7},
		{"1 every 2; 2/6 every 12", 1, 4, 6, 8},
		{"1 every 3; 3/6 every 12", 1, 5, 6, 8},
		{"1/1 every 3; 2/6 every 12", 1, 3, 9, 9},
		{"1/2 every 5; 1 every 3; 2/4 every 20", 2, 5, 8, 10},
		{"1 every 3; 1/2 every 5; 2/4 every 20", 2, 5, 8, 10},
		{"1 every 4; 2 every 9; 1/2 every 7; 2/4 every 20", 3, 7, 6, 12},
		{"1 every 4; 2 every 9; 1/2 every 7; 2/4 every 20 by 12", 3, 7, 6, 12},
		{"1 every 4; 2 every 9; 1/2 every 7; 2/4 every 20 by 11", 3, 7, 6, none},
		{"1 every 4; 2 every 9; 1/2 every 7; 2/4 every 20 by 7", 3, 7, 6, none},
		{"1 every 4; 2 every 9; 1/2 every 7; 2/4 every 20 by 6", 3, none, 6, none},
		{"1 every 4; 2 every 9; 1/2 every 7; 2/4 every 20 by 5", 3, none, none, none},
	} {
		checkResponse(t, c)
	}
}

func TestResponsesOfNoPlace(t *testing.T) {
	for length := range 6 {
		for _, list := range [][]impl.Task{someTasks(length), slices.Repeat([]impl.Task{critical(1, 1, 20, 20)}, length)} {
			for _, at := range []int{-1, length, -2, -length, length + 1, 1 << 32, -1 << 32, math.MaxInt, math.MinInt} {
				if 0 <= at && at < length {
					continue
				}
				n, ok := impl.ResponseLow(list, at)
				checkNumber(t, "ResponseLow", list, at, n, ok, none)
				n, ok = impl.ResponseHigh(list, at)
				checkNumber(t, "ResponseHigh", list, at, n, ok, none)
				n, ok = impl.ResponseSwitch(list, at)
				checkNumber(t, "ResponseSwitch", list, at, n, ok, none)
			}
		}
	}
	// A task behind the end of the list is none of it.
	list := someTasks(3)[:2]
	n, ok := impl.ResponseLow(list, 2)
	checkNumber(t, "ResponseLow", list, 2, n, ok, none)
}

func TestHolds(t *testing.T) {
	for _, c := range []struct {
		text      string
		low, both bool
		bad       int
	}{
		{"", true, true, none},
		{"1 every 4; 2/3 every 6", true, true, none},
		{"20 every 20", true, true, none},
		{"20/20 every 20", true, true, none},
		// The first one holds always, so that the second place is the first that may not.
		{"2/4 every 8; 1 every 5 by 3", true, true, none},
		{"2/4 every 8; 1 every 5 by 2", false, false, 1},
		{"2/4 every 8; 1 every 5 by 2; 3/6 every 12", false, false, 1},
		{"1 every 4; 1 every 4; 1 every 4; 1 every 4; 1 every 4", false, false, 4},
		{"1/1 every 4; 1/1 every 4; 1/1 every 4; 1/1 every 4; 1/1 every 4", false, false, 4},
		{"1 every 4; 1 every 4; 2 every 4 by 3; 1 every 9 by 3; 1/1 every 20", false, false, 2},
		// Some that hold come after one that does not.
		{"3 every 4; 1/2 every 10 by 4; 1 every 10", true, false, 1},
		{"3 every 4; 1/1 every 4; 1 every 1; 1 every 20", false, false, 2},
		{"2 every 4; 3 every 10 by 6; 1 every 20", false, false, 1},
		// All hold with low needs, but one that is critical does not at the switch, as alone with high ones or not.
		{"2 every 4; 2/5 every 10 by 7", true, true, none},
		{"2 every 4; 2/5 every 10 by 6", true, false, 1},
		{"1/2 every 4; 2/3 every 10 by 6", true, false, 1},
		{"1 every 4; 1/2 every 4; 2/3 every 10 by 6", true, false, 2},
		// One that is not critical has to hold with low needs only.
		{"1/4 every 4; 1 every 4", true, true, none},
		{"1/20 every 20; 1/1 every 20", true, false, 1},
		{"1/20 every 20; 1 every 20; 1/1 every 20", true, false, 2},
		// One that holds alone with high needs, but not with low ones beside others.
		{"20 every 20; 1/1 every 20", false, false, 1},
	} {
		list := tasksOf(t, c.text)
		checkHolds(t, list, c.low, c.both, c.bad)
		checkResponses(t, list)
	}
}

// smallTasks returns all valid tasks up to a number of ticks between two jobs.
func smallTasks(every int) []impl.Task {
	var small []impl.Task
	for _, x := range allTasks() {
		if x.Every <= every {
			small = append(small, x)
		}
	}
	return small
}

func TestResponsesOfSmallTasks(t *testing.T) {
	checkResponses(t, nil)
	checkResponses(t, []impl.Task{})
	for _, x := range allTasks() {
		checkResponses(t, []impl.Task{x})
	}
	pairs := smallTasks(6)
	for _, x := range pairs {
		for _, y := range pairs {
			checkResponses(t, []impl.Task{x, y})
		}
	}
	triples := smallTasks(3)
	for _, x := range triples {
		for _, y := range triples {
			for _, z := range triples {
				checkResponses(t, []impl.Task{x, y, z})
			}
		}
	}
}

func TestResponsesOfManyTasks(t *testing.T) {
	kinds := []impl.Task{
		plain(1, 3, 5), plain(2, 12, 12), critical(1, 2, 8, 8), critical(2, 4, 17, 20), critical(1, 1, 9, 13), plain(3, 19, 19), critical(3, 7, 20, 20),
	}
	eachList(kinds, func(list []impl.Task) {
		checkResponses(t, list)
		checkBusy(t, list)
	})
	eachList(mixedTasks(), func(list []impl.Task) { checkResponses(t, list) })
}

// TestResponsesOfLightTasks takes tasks with low needs that are small, as more of them hold than of all tasks.
func TestResponsesOfLightTasks(t *testing.T) {
	var light []impl.Task
	for _, x := range allTasks() {
		if x.Low <= 3 && x.High <= 6 && x.Every >= 9 && x.Due >= 7 {
			light = append(light, x)
		}
	}
	held := 0
	for i, x := range light {
		for step := range 12 {
			list := []impl.Task{x}
			for k := 1; k < 5; k++ {
				list = append(list, light[(i*7919+k*k*(631+step*97))%len(light)])
				checkResponses(t, list)
			}
			if impl.HoldsBoth(list) {
				held++
			}
		}
	}
	if held == 0 || held == 12*len(light) {
		t.Errorf("%d of %d lists hold", held, 12*len(light))
	}
}

func TestBusyLow(t *testing.T) {
	for _, c := range []struct {
		text string
		want int
	}{
		{"", none},
		{"1 every 1", 1},
		{"1 every 20", 1},
		{"20 every 20", 20},
		{"1 every 2; 2 every 5", 4},
		{"1 every 2; 2 every 3", none},
		// All of the time is needed, so that the busy time is just HyperOf.
		{"1 every 2; 2 every 4", 4},
		{"1 every 2; 1 every 3; 1 every 6", 6},
		{"1 every 3; 2 every 5; 4 every 15", 15},
		{"8 every 16; 9 every 18", 144},
		{"1 every 5; 1 every 5; 1 every 5; 1 every 5; 1 every 5", 5},
		{"7 every 14; 3 every 18; 1 every 6; 3 every 18", 126},
		// One tick more is needed than there are, and one less.
		{"8 every 16; 10 every 18", none},
		{"9 every 16; 9 every 18", none},
		{"8 every 16; 8 every 18", 16},
		{"7 every 16; 9 every 18", 16},
		{"1 every 1; 1 every 20", none},
		{"20 every 20; 20 every 20; 20 every 20; 20 every 20; 20 every 20", none},
		// A busy time that ends where a job comes, and one that goes on with it.
		{"1 every 2; 1 every 4", 2},
		{"1 every 3; 2 every 8", 3},
		{"2 every 3; 1 every 4", 3},
		{"2 every 3; 2 every 8", 6},
		// High needs, what is due and the order do not matter.
		{"1/2 every 2; 1/3 every 4", 2},
		{"1/1 every 2; 2/2 every 4", 4},
		{"1 every 2 by 1; 2 every 5 by 2", 4},
		{"2 every 5; 1 every 2", 4},
		// Tasks that begin together again only after a long time.
		{"3 every 13; 2 every 15; 2 every 16; 6 every 17; 3 every 19", 7904},
		{"1 every 11; 1 every 13; 1 every 17; 1 every 19; 1 every 20", 5},
		// A bit more than all of the time, with more than 1000000 ticks until they begin together again.
		{"2 every 13; 4 every 15; 1 every 16; 7 every 17; 2 every 19", none},
	} {
		list := tasksOf(t, c.text)
		n, ok := impl.BusyLow(list)
		checkNumber(t, "BusyLow", list, 0, n, ok, c.want)
		checkBusy(t, list)
	}
}

func TestBusyLowOfManyTasks(t *testing.T) {
	checkBusy(t, nil)
	checkBusy(t, []impl.Task{})
	for _, x := range allTasks() {
		checkBusy(t, []impl.Task{x})
	}
	pairs := smallTasks(5)
	for _, x := range pairs {
		for _, y := range pairs {
			checkBusy(t, []impl.Task{x, y})
		}
	}
	// Needs that take all of the time together are busy until HyperOf.
	full := 0
	for a := 1; a <= 20; a++ {
		for b := 1; b <= 20; b++ {
			for need := 1; need < a; need++ {
				list := []impl.Task{plain(need, a, a), critical(1, b, b, b)}
				if rest := b * (a - need); rest%a == 0 && rest > 0 {
					list[1].Low = rest / a
					n, ok := impl.BusyLow(list)
					checkNumber(t, "BusyLow", list, 0, n, ok, impl.HyperOf(list))
					full++
				}
				checkBusy(t, list)
			}
		}
	}
	if full == 0 {
		t.Error("no needs take all of the time")
	}
}

func TestInvalidListsHaveNoResponses(t *testing.T) {
	for _, list := range invalidLists() {
		for _, at := range []int{0, 1, 2, 3, 4, 5, 6, len(list) - 1, -1, math.MaxInt, math.MinInt} {
			n, ok := impl.ResponseLow(list, at)
			checkNumber(t, "ResponseLow", list, at, n, ok, none)
			n, ok = impl.ResponseHigh(list, at)
			checkNumber(t, "ResponseHigh", list, at, n, ok, none)
			n, ok = impl.ResponseSwitch(list, at)
			checkNumber(t, "ResponseSwitch", list, at, n, ok, none)
		}
		checkHolds(t, list, false, false, none)
		n, ok := impl.BusyLow(list)
		checkNumber(t, "BusyLow", list, 0, n, ok, none)
	}
}

func TestTooManyTasksHaveNoResponses(t *testing.T) {
	// Each of these would hold alone, and all of them together if there were not too many.
	for length := 5; length <= 7; length++ {
		list := slices.Repeat([]impl.Task{critical(1, 1, 20, 20)}, length)
		want, valid := []int{1, 2, 3, 4, 5, none, none}, length == 5
		for at := range length {
			if !valid {
				want[at] = none
			}
			n, ok := impl.ResponseLow(list, at)
			checkNumber(t, "ResponseLow", list, at, n, ok, want[at])
			n, ok = impl.ResponseHigh(list, at)
			checkNumber(t, "ResponseHigh", list, at, n, ok, want[at])
			n, ok = impl.ResponseSwitch(list, at)
			checkNumber(t, "ResponseSwitch", list, at, n, ok, want[at])
		}
		checkHolds(t, list, valid, valid, none)
		n, ok := impl.BusyLow(list)
		checkNumber(t, "BusyLow", list, 0, n, ok, want[4])
	}
}

func TestFunctionsOfResponsesKeepTheirArguments(t *testing.T) {
	check := func(list []impl.Task) {
		for at := -1; at <= len(list); at++ {
			checkUnchanged(t, "ResponseLow", list, func(list []impl.Task) { impl.ResponseLow(list, at) })
			checkUnchanged(t, "ResponseHigh", list, func(list []impl.Task) { impl.ResponseHigh(list, at) })
			checkUnchanged(t, "ResponseSwitch", list, func(list []impl.Task) { impl.ResponseSwitch(list, at) })
		}
		checkUnchanged(t, "HoldsLow", list, func(list []impl.Task) { impl.HoldsLow(list) })
		checkUnchanged(t, "HoldsBoth", list, func(list []impl.Task) { impl.HoldsBoth(list) })
		checkUnchanged(t, "FirstBad", list, func(list []impl.Task) { impl.FirstBad(list) })
		checkUnchanged(t, "BusyLow", list, func(list []impl.Task) { impl.BusyLow(list) })
	}
	for length := range 8 {
		check(someTasks(length))
		check(slices.Repeat([]impl.Task{critical(1, 2, 15, 17)}, length))
	}
	check(tasksOf(t, "1 every 3; 2 every 7; 1/2 every 5; 2/4 every 20"))
	check([]impl.Task{plain(1, 4, 4), {}, critical(1, 2, 8, 8)})
}
