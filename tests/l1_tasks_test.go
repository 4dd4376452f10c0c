package tests

import (
	"fmt"
	"math"
	"slices"
	"strings"
	"sync"
	"testing"

	"loop.example/dualmodes/impl"
)

func TestLimitsOfTasks(t *testing.T) {
	if impl.MaxTasks != 5 || impl.MaxEvery != 20 {
		t.Errorf("MaxTasks, MaxEvery = %d, %d", impl.MaxTasks, impl.MaxEvery)
	}
}

func TestTaskValidAtItsBounds(t *testing.T) {
	for _, x := range []impl.Task{
		plain(1, 1, 1), plain(20, 20, 20), plain(1, 20, 20), plain(1, 1, 20), plain(3, 5, 10),
		critical(1, 1, 1, 1), critical(20, 20, 20, 20), critical(1, 20, 20, 20), critical(1, 1, 1, 20),
		critical(3, 3, 5, 10), critical(3, 5, 5, 10), critical(3, 4, 10, 10),
	} {
		if !impl.TaskValid(x) {
			t.Errorf("TaskValid(%+v) is false", x)
		}
	}
	for _, x := range invalidTasks() {
		if impl.TaskValid(x) {
			t.Errorf("TaskValid(%+v) is true", x)
		}
	}
}

// around are numbers inside the bounds of tasks, and outside of them.
func around() []int {
	numbers := []int{math.MinInt, math.MinInt + 1, -1 << 32, -2, 1<<32 + 1, math.MaxInt}
	for n := -1; n <= 22; n++ {
		numbers = append(numbers, n)
	}
	return numbers
}

// eachTask calls f with all tasks of numbers around the bounds.
func eachTask(f func(impl.Task)) {
	numbers := around()
	for _, low := range numbers {
		for _, high := range numbers {
			for _, due := range numbers {
				for _, every := range numbers {
					f(impl.Task{Low: low, High: high, Due: due, Every: every})
					f(impl.Task{Low: low, High: high, Due: due, Every: every, Critical: true})
				}
			}
		}
	}
}

func TestTaskValidAndFormatTaskOfAllTasks(t *testing.T) {
	valid := map[impl.Task]string{}
	for _, x := range allTasks() {
		valid[x] = textOf(x)
	}
	found := 0
	eachTask(func(x impl.Task) {
		text, ok := valid[x]
		if ok {
			found++
		}
		if impl.TaskValid(x) != ok {
			t.Errorf("TaskValid(%+v) = %v", x, !ok)
		}
		if s := impl.FormatTask(x); s != text {
			t.Errorf("FormatTask(%+v) = %q, not %q", x, s, text)
		}
	})
	// The numbers of ways to choose three or four ascending numbers up to 20.
	if found != 1540+8855 {
		t.Errorf("there are %d valid tasks", found)
	}
}

func TestFormatTask(t *testing.T) {
	for _, c := range []struct {
		task impl.Task
		text string
	}{
		{critical(2, 4, 8, 10), "2/4 every 10 by 8"},
		{critical(2, 4, 10, 10), "2/4 every 10"},
		{plain(3, 12, 12), "3 every 12"},
		{plain(1, 2, 4), "1 every 4 by 2"},
		// One that needs all of its time, by when it is due or in all.
		{plain(3, 3, 3), "3 every 3"},
		{plain(3, 3, 4), "3 every 4 by 3"},
		{critical(3, 3, 3, 3), "3/3 every 3"},
		{plain(20, 20, 20), "20 every 20"},
		// A critical one without more need keeps its two numbers.
		{critical(2, 2, 5, 5), "2/2 every 5"},
		{critical(1, 1, 1, 20), "1/1 every 20 by 1"},
		{plain(1, 1, 1), "1 every 1"},
	} {
		if s := impl.FormatTask(c.task); s != c.text {
			t.Errorf("FormatTask(%+v) = %q, not %q", c.task, s, c.text)
		}
		if x, ok := impl.ParseTask(c.text); !ok || x != c.task {
			t.Errorf("ParseTask(%q) = %+v, %v", c.text, x, ok)
		}
	}
	for _, x := range invalidTasks() {
		if s := impl.FormatTask(x); s != "" {
			t.Errorf("FormatTask(%+v) = %q", x, s)
		}
	}
}

// tasksByText is what all valid tasks are, by their texts.
var tasksByText = sync.OnceValue(func() map[string]impl.Task {
	all := allTasks()
	byText := map[string]impl.Task{}
	for _, x := range all {
		byText[textOf(x)] = x
	}
	if len(byText) != len(all) {
		panic(fmt.Sprintf("%d tasks have %d texts", len(all), len(byText)))
	}
	return byText
})

// checkParseTask checks ParseTask of any text.
func checkParseTask(t *testing.T, byText map[string]impl.Task, s string) {
	t.Helper()
	want, valid := byText[s]
	if x, ok := impl.ParseTask(s); ok != valid || x != want {
		t.Errorf("ParseTask(%q) = %+v, %v", s, x, ok)
	}
}

func TestParseTaskReadsAllTextsBack(t *testing.T) {
	byText := tasksByText()
	for s := range byText {
		checkParseTask(t, byText, s)
	}
}

func TestParseTaskOfNearTexts(t *testing.T) {
	byText := tasksByText()
	for s := range byText {
		nearTexts(s, "0129 /-", func(near string) { checkParseTask(t, byText, near) })
	}
	for _, s := range []string{"1 every 1", "2/4 every 10 by 8", "20/20 every 20", "3 every 12 by 11"} {
		nearTexts(s, allBytes(), func(near string) { checkParseTask(t, byText, near) })
	}
}

func TestParseTaskOfInvalidTexts(t *testing.T) {
	for _, s := range []string{
		"", " ", "1", "1 every", "1 every ", "every 3", " every 3", " every ", "every", " by ", "/", "1/2", "1 by 1",
		"0 every 3", "0/1 every 3", "1/0 every 3", "1 every 0", "0 every 0", "1 every 3 by 0", "0/0 every 3",
		"-1 every 3", "1/-2 every 3", "1 every -3", "1 every 3 by -1", "+1 every 3", "1/+2 every 3", "1 every +3", "1 every 3 by +2",
		"01 every 3", "1/02 every 3", "1 every 03", "1 every 3 by 02", "00 every 3", "1 every 003",
		"4 every 3", "2/4 every 3", "3/2 every 3", "2 every 3 by 1", "1/3 every 4 by 2", "1 every 21", "21 every 21", "1 every 21 by 20",
		"1 every 3 by 3", "1 every 3 by 4", "1/2 every 3 by 3", "20 every 20 by 20",
		"1/2/3 every 4", "1/ every 3", "/2 every 3", "/ every 3", "1//2 every 3", "1 / 2 every 3", "1/2every 3",
		"1 every 3 every 3", "1 every 3 by 2 by 2", "1 by 2 every 3", "1 every 3 by", "1 every 3 by ", "1 every 3by 2", "1 every 3 by 2 ",
		"1  every 3", "1 every  3", " 1 every 3", "1 every 3 ", "1 every 3\n", "\n1 every 3", "1\tevery 3", "1 every 3\x00", "1 every 3;", "1 every 3; ",
		"1 each 3", "1 Every 3", "1 EVERY 3", "1 every 3 BY 2", "1 every 3 until 2", "one every 3", "0x1 every 3", "1.0 every 3", "1e0 every 3", "1_0 every 10", "1 every 1_0",
		"1 every 18446744073709551619", "1 every 4294967299", "9223372036854775808 every 9223372036854775808", "1/18446744073709551618 every 3",
		"\xff every 3", "1 every \xff", "\u0661 every 3", "1\u00a0every 3", "1 every 3 by \uff12",
		"1 every 3; 1 every 4", strings.Repeat("1", 100000) + " every 3", "1 every " + strings.Repeat("0", 100000) + "3", strings.Repeat("1/", 100000),
	} {
		if x, ok := impl.ParseTask(s); ok || x != (impl.Task{}) {
			t.Errorf("ParseTask(%.60q) = %+v, %v", s, x, ok)
		}
	}
}

func TestSetValid(t *testing.T) {
	if !impl.SetValid(nil) || !impl.SetValid([]impl.Task{}) {
		t.Error("SetValid refuses no tasks")
	}
	for length := 1; length <= 5; length++ {
		if !impl.SetValid(someTasks(length)) {
			t.Errorf("SetValid refuses %d tasks", length)
		}
	}
	for _, x := range allTasks() {
		if !impl.SetValid([]impl.Task{x}) || !impl.SetValid([]impl.Task{x, x, x, x, x}) || impl.SetValid([]impl.Task{x, x, x, x, x, x}) {
			t.Errorf("SetValid of lists of %+v is wrong", x)
		}
	}
	for _, list := range invalidLists() {
		if impl.SetValid(list) {
			t.Errorf("SetValid accepts %d tasks: %s", len(list), told(list))
		}
	}
}

func TestFormatSet(t *testing.T) {
	for _, c := range []struct {
		list []impl.Task
		text string
	}{
		{nil, ""},
		{[]impl.Task{}, ""},
		{someTasks(1), "1 every 10 by 9"},
		{someTasks(2), "1 every 10 by 9; 2/4 every 8"},
		{someTasks(5), "1 every 10 by 9; 2/4 every 8; 1/1 every 12 by 9; 3 every 8; 1/20 every 20"},
		{[]impl.Task{plain(1, 1, 1), plain(1, 1, 1)}, "1 every 1; 1 every 1"},
	} {
		if s := impl.FormatSet(c.list); s != c.text {
			t.Errorf("FormatSet(%v) = %q, not %q", c.list, s, c.text)
		}
		if list, ok := impl.ParseSet(c.text); !ok || !sameTasks(list, c.list) {
			t.Errorf("ParseSet(%q) = %v, %v", c.text, list, ok)
		}
	}
	for _, list := range invalidLists() {
		if s := impl.FormatSet(list); s != "" {
			t.Errorf("FormatSet(%s) = %q", told(list), s)
		}
	}
}

// wantSet reads tasks as the specification says, by the texts that tasks have.
func wantSet(byText map[string]impl.Task, s string) ([]impl.Task, bool) {
	if s == "" {
		return nil, true
	}
	var list []impl.Task
	for _, text := range strings.Split(s, "; ") {
		x, ok := byText[text]
		if !ok {
			return nil, false
		}
		list = append(list, x)
	}
	if len(list) > 5 {
		return nil, false
	}
	return list, true
}

// checkParseSet checks ParseSet of any text.
func checkParseSet(t *testing.T, byText map[string]impl.Task, s string) {
	t.Helper()
	want, valid := wantSet(byText, s)
	if list, ok := impl.ParseSet(s); ok != valid || !sameTasks(list, want) {
		t.Errorf("ParseSet(%q) = %v, %v, not %v, %v", s, list, ok, want, valid)
	}
}

func TestParseSetReadsTextsBack(t *testing.T) {
	all := allTasks()
	byText := tasksByText()
	for i := range all {
		var list []impl.Task
		for length := 1; length <= 5; length++ {
			list = append(list, all[(i*7919+length*length*631)%len(all)])
			text := impl.FormatSet(list)
			if got, ok := impl.ParseSet(text); !ok || !sameTasks(got, list) {
				t.Errorf("ParseSet(%q) = %v, %v", text, got, ok)
			}
			checkParseSet(t, byText, text)
		}
		checkParseSet(t, byText, impl.FormatSet(list)+"; "+textOf(all[i]))
	}
}

func TestParseSetOfNearTexts(t *testing.T) {
	byText := tasksByText()
	five := "1 every 10 by 9; 2/4 every 8; 1/1 every 12 by 9; 3 every 8; 1/20 every 20"
	for _, s := range []string{"", "3 every 5", "1 every 4; 2/3 every 6", five, five + "; 1 every 2"} {
		nearTexts(s, allBytes(), func(near string) { checkParseSet(t, byText, near) })
	}
}

func TestParseSetOfInvalidTexts(t *testing.T) {
	one := "1 every 2"
	six := strings.Repeat(one+"; ", 5) + one
	for _, s := range []string{
		" ", ";", "; ", "; ; ", one + ";", one + "; ", one + "; ; " + one, "; " + one, " " + one, one + " ", one + "\n",
		one + ";" + one, one + " ; " + one, one + ";  " + one, one + "," + one, one + ", " + one, one + ";\n" + one, one + "\n" + one, one + " " + one,
		six, six + "; ", six + "; " + one, strings.TrimSuffix(six, one), strings.Repeat(one+"; ", 5), strings.Repeat("; ", 100000), strings.Repeat(one+"; ", 100000) + one,
		one + "; 0 every 2", one + "; " + one + "; 1 every 21", "2/1 every 3; " + one, one + "; 1 every 3 by 3", "\xff", one + "; \xff",
	} {
		if list, ok := impl.ParseSet(s); ok || len(list) != 0 {
			t.Errorf("ParseSet(%.100q) = %v, %v", s, list, ok)
		}
	}
	if list, ok := impl.ParseSet(strings.Repeat(one+"; ", 4) + one); !ok || len(list) != 5 {
		t.Errorf("ParseSet of 5 tasks = %v, %v", list, ok)
	}
}

// eachList calls f with all lists of up to 5 of some tasks.
func eachList(kinds []impl.Task, f func([]impl.Task)) {
	var grow func(list []impl.Task)
	grow = func(list []impl.Task) {
		f(slices.Clone(list))
		if len(list) == 5 {
			return
		}
		for _, x := range kinds {
			grow(append(list, x))
		}
	}
	grow(nil)
}

// mixedTasks are tasks of which some have the same Due, or the same Every as well, and differ otherwise.
func mixedTasks() []impl.Task {
	return []impl.Task{
		plain(1, 9, 10), plain(2, 9, 10), critical(1, 1, 9, 12), critical(2, 4, 8, 8), plain(3, 8, 8), critical(1, 5, 6, 20),
	}
}

func TestSortDue(t *testing.T) {
	for _, c := range []struct{ text, sorted string }{
		{"", ""},
		{"3 every 3", "3 every 3"},
		{"1 every 10 by 9; 2/4 every 8; 1/1 every 12 by 9; 3 every 8", "2/4 every 8; 3 every 8; 1 every 10 by 9; 1/1 every 12 by 9"},
		{"1 every 5; 1 every 4; 1 every 3; 1 every 2; 1 every 1", "1 every 1; 1 every 2; 1 every 3; 1 every 4; 1 every 5"},
		{"1 every 20 by 2; 1 every 3", "1 every 20 by 2; 1 every 3"},
		{"1 every 9 by 5; 1 every 8 by 5; 1 every 5", "1 every 5; 1 every 8 by 5; 1 every 9 by 5"},
		{"3 every 8; 2/4 every 8; 1 every 8; 2 every 8; 1/1 every 8", "3 every 8; 2/4 every 8; 1 every 8; 2 every 8; 1/1 every 8"},
	} {
		list, ok := impl.ParseSet(c.text)
		if s := impl.FormatSet(impl.SortDue(list)); !ok || s != c.sorted {
			t.Errorf("SortDue of %q = %q, not %q", c.text, s, c.sorted)
		}
	}
	eachList(mixedTasks(), func(list []impl.Task) {
		want := slices.Clone(list)
		slices.SortStableFunc(want, func(a, b impl.Task) int { return (a.Due-b.Due)*1000 + a.Every - b.Every })
		if got := impl.SortDue(list); !sameTasks(got, want) {
			t.Errorf("SortDue(%v) = %v, not %v", list, got, want)
		}
	})
}

func TestCriticalOf(t *testing.T) {
	for _, c := range []struct{ text, critical string }{
		{"", ""},
		{"3 every 3; 1 every 4 by 2", ""},
		{"2/4 every 10 by 8", "4/4 every 10 by 8"},
		{"2/2 every 5", "2/2 every 5"},
		{"1 every 10 by 9; 2/4 every 8; 1/1 every 12 by 9; 3 every 8", "4/4 every 8; 1/1 every 12 by 9"},
		{"1/2 every 9; 1/3 every 3; 1/20 every 20; 1/1 every 1; 3/4 every 4", "2/2 every 9; 3/3 every 3; 20/20 every 20; 1/1 every 1; 4/4 every 4"},
	} {
		list, ok := impl.ParseSet(c.text)
		if s := impl.FormatSet(impl.CriticalOf(list)); !ok || s != c.critical {
			t.Errorf("CriticalOf %q = %q, not %q", c.text, s, c.critical)
		}
	}
	eachList(mixedTasks(), func(list []impl.Task) {
		var want []impl.Task
		for _, x := range list {
			if x.Critical {
				want = append(want, critical(x.High, x.High, x.Due, x.Every))
			}
		}
		if got := impl.CriticalOf(list); !sameTasks(got, want) {
			t.Errorf("CriticalOf(%v) = %v, not %v", list, got, want)
		}
	})
}

func TestHyperOf(t *testing.T) {
	for _, c := range []struct {
		text  string
		hyper int
	}{
		{"", 1},
		{"1 every 1", 1},
		{"1 every 20", 20},
		{"1 every 20 by 3", 20},
		{"1 every 4; 2/3 every 6", 12},
		{"1 every 6; 1 every 6", 6},
		{"1 every 10 by 9; 2/4 every 8; 1/1 every 12 by 9; 3 every 8", 120},
		{"1 every 20; 1 every 19; 1 every 17; 1 every 13; 1 every 11", 20 * 19 * 17 * 13 * 11},
		{"1 every 16; 1 every 9; 1 every 5; 1 every 7; 1 every 19", 16 * 9 * 5 * 7 * 19},
		{"1 every 2; 1 every 4; 1 every 8; 1 every 16; 1 every 1", 16},
	} {
		list, ok := impl.ParseSet(c.text)
		if n := impl.HyperOf(list); !ok || n != c.hyper {
			t.Errorf("HyperOf %q = %d, not %d", c.text, n, c.hyper)
		}
	}
}

// dividedByAll reports whether a number is above 0 and can be divided by Every of all tasks.
func dividedByAll(n int, list []impl.Task) bool {
	return n > 0 && !slices.ContainsFunc(list, func(x impl.Task) bool { return n%x.Every != 0 })
}

func TestHyperOfAllPeriods(t *testing.T) {
	var grow func(list []impl.Task, from int)
	grow = func(list []impl.Task, from int) {
		n := impl.HyperOf(list)
		if !dividedByAll(n, list) {
			t.Errorf("HyperOf(%v) = %d", list, n)
		}
		// A greater number would still be divided by all after one of its primes, all below 20, is taken away.
		for _, p := range []int{2, 3, 5, 7, 11, 13, 17, 19} {
			if n%p == 0 && dividedByAll(n/p, list) {
				t.Errorf("HyperOf(%v) = %d is not the least", list, n)
			}
		}
		for every := from; every <= 20 && len(list) < 5; every++ {
			grow(append(slices.Clone(list), plain(1, 1, every)), every)
		}
	}
	grow(nil, 1)
}

func TestInvalidListsHaveNoOrderNoCriticalTasksAndNoHyper(t *testing.T) {
	for _, list := range invalidLists() {
		if got := impl.SortDue(list); len(got) != 0 {
			t.Errorf("SortDue(%s) = %v", told(list), got)
		}
		if got := impl.CriticalOf(list); len(got) != 0 {
			t.Errorf("CriticalOf(%s) = %v", told(list), got)
		}
		if n := impl.HyperOf(list); n != 0 {
			t.Errorf("HyperOf(%s) = %d", told(list), n)
		}
	}
}

func TestEmptyListsOfTasksAreNil(t *testing.T) {
	for _, list := range [][]impl.Task{nil, {}, make([]impl.Task, 0, 8), someTasks(5)[:0]} {
		if !impl.SetValid(list) || impl.FormatSet(list) != "" || len(impl.SortDue(list)) != 0 || len(impl.CriticalOf(list)) != 0 || impl.HyperOf(list) != 1 {
			t.Errorf("an empty list with room for %d is not taken as none", cap(list))
		}
	}
}

func TestFunctionsOfTasksKeepTheirArguments(t *testing.T) {
	lists := invalidLists()
	for length := range 6 {
		lists = append(lists, someTasks(length))
	}
	lists = append(lists, impl.SortDue(someTasks(5)), []impl.Task{critical(4, 4, 8, 8)}, impl.CriticalOf(someTasks(5)))
	for _, list := range lists {
		checkApart(t, "SortDue", list, impl.SortDue)
		checkApart(t, "CriticalOf", list, impl.CriticalOf)
		checkUnchanged(t, "SetValid", list, func(list []impl.Task) { impl.SetValid(list) })
		checkUnchanged(t, "FormatSet", list, func(list []impl.Task) { impl.FormatSet(list) })
		checkUnchanged(t, "HyperOf", list, func(list []impl.Task) { impl.HyperOf(list) })
	}
}

func TestResultsOfParseSetShareNothing(t *testing.T) {
	for length := range 6 {
		text := impl.FormatSet(someTasks(length))
		checkApart(t, "ParseSet", nil, func([]impl.Task) []impl.Task {
			list, _ := impl.ParseSet(text)
			return list
		})
	}
}

func TestArgumentsWithoutRoomBehindThem(t *testing.T) {
	for length := range 6 {
		list := slices.Clip(someTasks(length))
		want := slices.Clone(list)
		results := [][]impl.Task{impl.SortDue(list), impl.CriticalOf(list)}
		for _, result := range results {
			overwrite(result)
		}
		if !sameTasks(list, want) {
			t.Errorf("a result shares memory with %v", want)
		}
	}
}
