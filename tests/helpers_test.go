package tests

import (
	"fmt"
	"math"
	"slices"
	"strconv"
	"testing"

	"loop.example/dualmodes/impl"
)

// plain and critical write tasks without names of fields.
func plain(need, due, every int) impl.Task {
	return impl.Task{Low: need, High: need, Due: due, Every: every}
}

func critical(low, high, due, every int) impl.Task {
	return impl.Task{Low: low, High: high, Due: due, Every: every, Critical: true}
}

// allTasks returns every valid task, built from the limits alone.
func allTasks() []impl.Task {
	var all []impl.Task
	for every := 1; every <= 20; every++ {
		for due := 1; due <= every; due++ {
			for high := 1; high <= due; high++ {
				all = append(all, plain(high, due, every))
				for low := 1; low <= high; low++ {
					all = append(all, critical(low, high, due, every))
				}
			}
		}
	}
	return all
}

// textOf writes a valid task as the specification says, apart from the program.
func textOf(t impl.Task) string {
	s := strconv.Itoa(t.Low)
	if t.Critical {
		s += "/" + strconv.Itoa(t.High)
	}
	s += " every " + strconv.Itoa(t.Every)
	if t.Due < t.Every {
		s += " by " + strconv.Itoa(t.Due)
	}
	return s
}

// invalidTasks returns one or more tasks for each way in which a task is not valid, the first step past each bound among them.
func invalidTasks() []impl.Task {
	return []impl.Task{
		{},
		{Critical: true},
		plain(0, 5, 10),
		critical(0, 3, 5, 10),
		critical(0, 0, 5, 10),
		plain(-1, 5, 10),
		critical(-1, 3, 5, 10),
		critical(4, 3, 5, 10),
		plain(6, 5, 10),
		critical(3, 6, 5, 10),
		plain(3, 11, 10),
		critical(3, 4, 11, 10),
		plain(3, 5, 21),
		critical(3, 4, 5, 21),
		plain(21, 21, 21),
		critical(21, 21, 21, 21),
		plain(1, 1, 0),
		plain(1, 0, 0),
		plain(3, 5, -10),
		plain(3, -5, 10),
		{Low: 2, High: 3, Due: 5, Every: 10},
		{Low: 3, High: 2, Due: 5, Every: 10},
		{Low: 1, High: 20, Due: 20, Every: 20},
		plain(1, 1, math.MaxInt),
		plain(1, math.MaxInt, math.MaxInt),
		plain(math.MaxInt, math.MaxInt, math.MaxInt),
		critical(1, math.MaxInt, 5, 10),
		critical(math.MinInt, 3, 5, 10),
		plain(math.MinInt, math.MinInt, math.MinInt),
		critical(math.MinInt, math.MinInt, math.MinInt, math.MinInt),
	}
}

// invalidLists returns lists with one invalid task at each place of each length, and valid tasks that are too many.
func invalidLists() [][]impl.Task {
	var lists [][]impl.Task
	for _, bad := range invalidTasks() {
		for length := 1; length <= 5; length++ {
			for at := range length {
				list := someTasks(length)
				list[at] = bad
				lists = append(lists, list)
			}
		}
	}
	return append(lists, someTasks(6), someTasks(7), someTasks(1000), make([]impl.Task, 6))
}

// someTasks returns so many valid tasks, not in the order of what is due.
func someTasks(length int) []impl.Task {
	kinds := []impl.Task{
		plain(1, 9, 10),
		critical(2, 4, 8, 8),
		critical(1, 1, 9, 12),
		plain(3, 8, 8),
		critical(1, 20, 20, 20),
	}
	list := make([]impl.Task, length)
	for i := range list {
		list[i] = kinds[i%len(kinds)]
	}
	return list
}

// told writes tasks for a message, the first ones of too many.
func told(list []impl.Task) string {
	if len(list) <= 7 {
		return fmt.Sprint(list)
	}
	return fmt.Sprintf("%v and %d more", list[:7], len(list)-7)
}

func sameTasks(a, b []impl.Task) bool { return slices.Equal(a, b) }

// checkApart checks that a function of tasks changes neither its argument nor what lies behind it,
// and that its result shares memory with neither the argument nor another result, unused capacity included.
func checkApart(t *testing.T, name string, list []impl.Task, f func([]impl.Task) []impl.Task) {
	t.Helper()
	behind := critical(7, 8, 9, 11)
	memory := slices.Concat([]impl.Task{behind}, list, []impl.Task{behind, behind, behind, behind, behind, behind})
	before := slices.Clone(memory)
	argument := memory[1 : 1+len(list)]
	first := f(argument)
	second := f(argument)
	if !sameTasks(memory, before) {
		t.Errorf("%s(%v) changes its argument or the memory behind it", name, list)
	}
	want := slices.Clone(first)
	overwrite(second)
	if !sameTasks(first, want) {
		t.Errorf("%s(%v): two results share memory", name, list)
	}
	overwrite(first)
	if !sameTasks(memory, before) {
		t.Errorf("%s(%v) returns memory of its argument", name, list)
	}
	if again := f(argument); !sameTasks(again, want) {
		t.Errorf("%s(%v) = %v after its results were overwritten, not %v", name, list, again, want)
	}
}

// overwrite fills a result, and its unused capacity.
func overwrite(list []impl.Task) {
	list = list[:cap(list)]
	for i := range list {
		list[i] = impl.Task{Low: -7, High: -7, Due: -7, Every: -7}
	}
}

// checkUnchanged checks that a function of tasks that returns none changes neither its argument nor what lies behind it.
func checkUnchanged(t *testing.T, name string, list []impl.Task, f func([]impl.Task)) {
	t.Helper()
	checkApart(t, name, list, func(list []impl.Task) []impl.Task {
		f(list)
		return nil
	})
}

// nearTexts calls f with all texts that come from s by leaving out, putting in, exchanging or doubling a byte.
func nearTexts(s string, bytes string, f func(near string)) {
	for i := range len(s) + 1 {
		for j := range len(bytes) {
			f(s[:i] + bytes[j:j+1] + s[i:])
			if i < len(s) {
				f(s[:i] + bytes[j:j+1] + s[i+1:])
			}
		}
		if i < len(s) {
			f(s[:i] + s[i+1:])
			f(s[:i])
			f(s[i:])
			f(s[:i] + s[i:i+1] + s[i:])
		}
		if i+1 < len(s) {
			f(s[:i] + s[i+1:i+2] + s[i:i+1] + s[i+2:])
		}
	}
}

// allBytes is every byte once, which is no valid UTF-8.
func allBytes() string {
	b := make([]byte, 256)
	for i := range b {
		b[i] = byte(i)
	}
	return string(b)
}
