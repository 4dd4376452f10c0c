package tests

import (
	"fmt"
	"math"
	"slices"
	"strings"
	"sync"
	"testing"

	"loop.example/dualmodes/impl"
)

// everyTask is all valid tasks, to be asked whether a task is one of them.
var everyTask = sync.OnceValue(func() map[impl.Task]bool {
	all := map[impl.Task]bool{}
	for _, x := range allTasks() {
		all[x] = true
	}
	return all
})

// wantTasks finds whether tasks are valid, apart from the program.
func wantTasks(list []impl.Task) bool {
	for _, x := range list {
		if !everyTask()[x] {
			return false
		}
	}
	return len(list) <= 5
}

// wantHoldsBy finds whether tasks hold by a policy, apart from the program.
func wantHoldsBy(list []impl.Task, policy int) bool {
	if !wantTasks(list) || !between(0, policy, 1) {
		return false
	}
	if policy == 1 {
		return wantVirtual(list)
	}
	for at := range list {
		if !wantHolds(list, at) {
			return false
		}
	}
	return true
}

// wantAdmitted finds the tasks behind an admission by trying all orders, and whether there is one.
func wantAdmitted(list []impl.Task, x impl.Task, policy int) ([]impl.Task, bool) {
	with := append(slices.Clone(list), x)
	if !wantHoldsBy(list, policy) || !wantTasks(with) {
		return nil, false
	}
	if policy == 1 && wantVirtual(with) {
		return with, true
	}
	if policy == 0 {
		if orders := wantOrders(with); len(orders) > 0 {
			return picked(with, wantAssigned(orders)), true
		}
	}
	return nil, false
}

// wantLeft finds the tasks that stay when one leaves, and whether there is such a one.
func wantLeft(list []impl.Task, at int) ([]impl.Task, bool) {
	if !wantTasks(list) || !between(0, at, len(list)-1) {
		return nil, false
	}
	var left []impl.Task
	for i, x := range list {
		if i != at {
			left = append(left, x)
		}
	}
	return left, true
}

// wantAll finds which of some tasks are admitted one after the other, and which are refused.
func wantAll(tasks []impl.Task, policy int) ([]impl.Task, []int, bool) {
	if !between(0, policy, 1) || len(tasks) > 20 {
		return nil, nil, false
	}
	var list []impl.Task
	var refused []int
	for at, x := range tasks {
		if with, ok := wantAdmitted(list, x, policy); ok {
			list = with
		} else {
			refused = append(refused, at)
		}
	}
	return list, refused, true
}

// withNeeds returns a copy of tasks in which one has other needs.
func withNeeds(list []impl.Task, at, low, high int) []impl.Task {
	other := slices.Clone(list)
	other[at].Low, other[at].High = low, high
	return other
}

// wantMost finds the greatest high need of a task with which all hold, and the greatest low need, by trying numbers of which
// most are no needs at all; none if that is not told.
func wantMost(list []impl.Task, at, policy int) (high int, low int) {
	high, low = none, none
	if !wantHoldsBy(list, policy) || !between(0, at, len(list)-1) {
		return high, low
	}
	x := list[at]
	for n := -3; n <= 30; n++ {
		if x.Critical && wantHoldsBy(withNeeds(list, at, x.Low, n), policy) {
			high = n
		}
		if x.Critical && wantHoldsBy(withNeeds(list, at, n, x.High), policy) || !x.Critical && wantHoldsBy(withNeeds(list, at, n, n), policy) {
			low = n
		}
	}
	return high, low
}

// wantRaised finds tasks with so many ticks more, and whether there are such ones.
func wantRaised(list []impl.Task, ticks int) ([]impl.Task, bool) {
	if !between(-20, ticks, 20) || !wantTasks(list) {
		return nil, false
	}
	var raised []impl.Task
	for _, x := range list {
		raised = append(raised, impl.Task{Low: x.Low + ticks, High: x.High + ticks, Due: x.Due, Every: x.Every, Critical: x.Critical})
	}
	if !wantTasks(raised) {
		return nil, false
	}
	return raised, true
}

// checkTasks checks tasks and whether there are such ones.
func checkTasks(t *testing.T, name string, got []impl.Task, ok bool, want []impl.Task, valid bool) {
	t.Helper()
	if ok != valid || !sameTasks(got, want) {
		t.Errorf("%s = %v, %v, not %v, %v", name, told(got), ok, told(want), valid)
	}
}

// checkHoldsBy checks whether any tasks hold by a policy, and returns it.
func checkHoldsBy(t *testing.T, list []impl.Task, policy int) bool {
	t.Helper()
	want := wantHoldsBy(list, policy)
	if ok := impl.HoldsBy(list, policy); ok != want {
		t.Errorf("HoldsBy(%s, %d) = %v", told(list), policy, ok)
	}
	return want
}

// checkAdmit checks an admission to any tasks, and that what is admitted holds. It returns whether the task is admitted.
func checkAdmit(t *testing.T, list []impl.Task, x impl.Task, policy int) bool {
	t.Helper()
	want, valid := wantAdmitted(list, x, policy)
	got, ok := impl.AdmitTask(list, x, policy)
	checkTasks(t, fmt.Sprintf("AdmitTask(%s, %v, %d)", told(list), x, policy), got, ok, want, valid)
	if ok && !impl.HoldsBy(got, policy) {
		t.Errorf("AdmitTask(%s, %v, %d) = %s, which do not hold", told(list), x, policy, told(got))
	}
	return valid
}

func checkLeave(t *testing.T, list []impl.Task, at int) {
	t.Helper()
	want, valid := wantLeft(list, at)
	got, ok := impl.LeaveTask(list, at)
	checkTasks(t, fmt.Sprintf("LeaveTask(%s, %d)", told(list), at), got, ok, want, valid)
}

// checkAll checks which of any tasks are admitted, and that these hold. It returns them.
func checkAll(t *testing.T, tasks []impl.Task, policy int) []impl.Task {
	t.Helper()
	want, wantRefused, valid := wantAll(tasks, policy)
	got, refused, ok := impl.AdmitAll(tasks, policy)
	name := fmt.Sprintf("AdmitAll(%s, %d)", told(tasks), policy)
	checkTasks(t, name, got, ok, want, valid)
	if !slices.Equal(refused, wantRefused) {
		t.Errorf("%s refuses %v, not %v", name, refused, wantRefused)
	}
	if ok && !impl.HoldsBy(got, policy) {
		t.Errorf("%s = %s, which do not hold", name, told(got))
	}
	return want
}

// checkMost checks the greatest needs of a place of any tasks.
func checkMost(t *testing.T, list []impl.Task, at, policy int) {
	t.Helper()
	high, low := wantMost(list, at, policy)
	n, ok := impl.MostHigh(list, at, policy)
	checkNumber(t, fmt.Sprint("by ", policy, ", MostHigh"), list, at, n, ok, high)
	n, ok = impl.MostLow(list, at, policy)
	checkNumber(t, fmt.Sprint("by ", policy, ", MostLow"), list, at, n, ok, low)
}

func checkRaise(t *testing.T, list []impl.Task, ticks int) {
	t.Helper()
	want, valid := wantRaised(list, ticks)
	got, ok := impl.RaiseAll(list, ticks)
	checkTasks(t, fmt.Sprintf("RaiseAll(%s, %d)", told(list), ticks), got, ok, want, valid)
}

// checkList checks all of what any tasks are told but admissions.
func checkList(t *testing.T, list []impl.Task) {
	t.Helper()
	for policy := -1; policy <= 2; policy++ {
		checkHoldsBy(t, list, policy)
		for at := -1; at <= min(len(list), 7); at++ {
			checkMost(t, list, at, policy)
		}
	}
	for at := -1; at <= min(len(list), 7); at++ {
		checkLeave(t, list, at)
	}
	for ticks := -21; ticks <= 21; ticks++ {
		checkRaise(t, list, ticks)
	}
}

// farNumbers are neither policies, places nor ticks by which needs may be raised.
func farNumbers() []int {
	return []int{math.MinInt, math.MinInt + 1, -1 << 32, -201, -22, 22, 201, 1 << 32, 1<<32 + 1, math.MaxInt - 1, math.MaxInt}
}

// textOfTasks writes valid tasks, apart from the program.
func textOfTasks(list []impl.Task) string {
	var texts []string
	for _, x := range list {
		texts = append(texts, textOf(x))
	}
	return strings.Join(texts, "; ")
}

// taskOf reads the text of one task.
func taskOf(t *testing.T, text string) impl.Task {
	t.Helper()
	x, ok := impl.ParseTask(text)
	if !ok {
		t.Fatalf("%q is no text of a task", text)
	}
	return x
}

func TestHoldsBy(t *testing.T) {
	for _, c := range []struct {
		text           string
		byPlace, byDue bool
	}{
		{"", true, true},
		{"20 every 20", true, true},
		{"1/20 every 20", true, true},
		{"1/2 every 4 by 3", true, false},
		// The order counts by place, and does not by deadline.
		{"3 every 12; 1 every 4 by 2", false, false},
		{"1 every 4 by 2; 3 every 12", true, false},
		{"4 every 12; 1 every 4", false, true},
		{"1 every 4; 4 every 12", true, true},
		// By deadline, a processor can be busy at all times.
		{"2 every 4; 3 every 6", false, true},
		{"2 every 4; 3/4 every 6", false, false},
		{"2/3 every 4; 1/1 every 4", true, true},
		// The critical one is in time with virtual deadlines, and as the first one.
		{"5 every 10; 2/6 every 10", false, true},
		{"2/6 every 10; 5 every 10", true, true},
		{"5 every 10; 2/9 every 10", false, false},
		{"2/9 every 10; 5 every 10", true, false},
		// They hold with low needs alone.
		{"2 every 4 by 3; 2/5 every 10 by 6", false, false},
		{"1/4 every 5; 1/4 every 5", false, false},
		{"1 every 5; 1 every 5; 1 every 5; 1 every 5; 1 every 5", true, true},
		{"1 every 5; 1 every 5; 1 every 5; 1 every 5; 2 every 5", false, false},
	} {
		list := tasksOf(t, c.text)
		for policy, want := range []bool{c.byPlace, c.byDue} {
			if ok := impl.HoldsBy(list, policy); ok != want {
				t.Errorf("HoldsBy(%q, %d) = %v", c.text, policy, ok)
			}
		}
		for _, policy := range append([]int{-2, -1, 2, 3}, farNumbers()...) {
			if impl.HoldsBy(list, policy) {
				t.Errorf("HoldsBy(%q, %d) is true", c.text, policy)
			}
		}
		checkList(t, list)
	}
}

// refused stands for an admission that does not take place.
const refused = "no"

// admission is what becomes of tasks with a text when one more asks, by each policy: their text, or refused.
type admission struct{ text, task, byPlace, byDue string }

func checkAdmission(t *testing.T, c admission) {
	t.Helper()
	list, x := tasksOf(t, c.text), taskOf(t, c.task)
	for policy, want := range []string{c.byPlace, c.byDue} {
		got, ok := impl.AdmitTask(list, x, policy)
		if text := textOfTasks(got); ok != (want != refused) || ok && text != want || !ok && len(got) > 0 {
			t.Errorf("AdmitTask(%q, %q, %d) = %q, %v, not %q", c.text, c.task, policy, text, ok, want)
		}
	}
	for policy := -1; policy <= 2; policy++ {
		checkAdmit(t, list, x, policy)
	}
}

func TestAdmitTask(t *testing.T) {
	for _, c := range []admission{
		// The document's example, step by step: the second task goes first though it comes last.
		{"", "3 every 12", "3 every 12", "3 every 12"},
		{"3 every 12", "1 every 4 by 2", "1 every 4 by 2; 3 every 12", refused},
		{"1 every 4 by 2; 3 every 12", "2/3 every 8", "1 every 4 by 2; 3 every 12; 2/3 every 8", refused},
		{"1 every 4 by 2; 3 every 12; 2/3 every 8", "4 every 6", refused, refused},
		// To no tasks, each task is admitted by place, and each that is due with its next job by deadline.
		{"", "20/20 every 20", "20/20 every 20", "20/20 every 20"},
		{"", "1/20 every 20", "1/20 every 20", "1/20 every 20"},
		{"", "1 every 1", "1 every 1", "1 every 1"},
		{"", "1 every 2 by 1", "1 every 2 by 1", refused},
		{"", "2/7 every 8 by 7", "2/7 every 8 by 7", refused},
		// By place, a task goes first, between or last, and those that were there keep their order.
		{"1 every 20 by 9; 4 every 20 by 12; 2 every 20 by 15", "1 every 20 by 1",
			"1 every 20 by 1; 1 every 20 by 9; 4 every 20 by 12; 2 every 20 by 15", refused},
		{"2 every 20 by 2; 4 every 20 by 10; 8 every 20 by 16", "2 every 20 by 7",
			"2 every 20 by 2; 2 every 20 by 7; 4 every 20 by 10; 8 every 20 by 16", refused},
		{"2 every 20 by 2; 4 every 20 by 10; 8 every 20 by 16", "2 every 20 by 15",
			"2 every 20 by 2; 4 every 20 by 10; 2 every 20 by 15; 8 every 20 by 16", refused},
		{"2 every 20 by 2; 4 every 20 by 10; 8 every 20 by 16", "2 every 20 by 16",
			"2 every 20 by 2; 4 every 20 by 10; 8 every 20 by 16; 2 every 20 by 16", refused},
		{"2 every 20 by 2; 4 every 20 by 10; 8 every 20 by 16", "3 every 20 by 16", refused, refused},
		// It goes last if it can, though it is due first.
		{"1 every 20; 1 every 20", "1 every 20 by 3", "1 every 20; 1 every 20; 1 every 20 by 3", refused},
		{"1 every 20; 2 every 20", "1 every 20 by 3", "1 every 20; 1 every 20 by 3; 2 every 20", refused},
		// A list in which all hold is not in the order that AssignOrder gives when one more comes: one of those that were
		// there goes before another one that it was behind.
		{"3 every 20; 1 every 20 by 4", "1 every 20 by 1", "1 every 20 by 1; 1 every 20 by 4; 3 every 20", refused},
		{"3 every 20; 1 every 20 by 4", "1 every 20", "3 every 20; 1 every 20 by 4; 1 every 20", refused},
		{"2 every 20; 2 every 20 by 4; 1/1 every 20 by 5", "1/1 every 20 by 1", "1/1 every 20 by 1; 2 every 20 by 4; 1/1 every 20 by 5; 2 every 20", refused},
		// A list whose tasks would hold in another order only admits nobody by place.
		{"3 every 12; 1 every 4 by 2", "1 every 20", refused, refused},
		{"4 every 12; 1 every 4", "1 every 20", refused, "4 every 12; 1 every 4; 1 every 20"},
		{"5 every 10; 2/6 every 10", "1 every 10", refused, "5 every 10; 2/6 every 10; 1 every 10"},
		{"2/6 every 10; 5 every 10", "1 every 10", "2/6 every 10; 5 every 10; 1 every 10", "2/6 every 10; 5 every 10; 1 every 10"},
		// By deadline, the task stays last, even if it has to go first by place.
		{"4 every 12", "1 every 4", "1 every 4; 4 every 12", "4 every 12; 1 every 4"},
		{"5 every 10", "2/6 every 10", "2/6 every 10; 5 every 10", "5 every 10; 2/6 every 10"},
		// By deadline, a task is admitted with a factor, and refused by one that is too great, and if there is none.
		{"5 every 10", "2/5 every 10", "5 every 10; 2/5 every 10", "5 every 10; 2/5 every 10"},
		{"5 every 10", "2/8 every 10", "2/8 every 10; 5 every 10", "5 every 10; 2/8 every 10"},
		{"5 every 10", "2/9 every 10", "2/9 every 10; 5 every 10", refused},
		{"5 every 10", "5/6 every 10", "5/6 every 10; 5 every 10", refused},
		{"5 every 10", "6/6 every 10", refused, refused},
		{"5 every 10; 2/6 every 10", "4 every 10", refused, refused},
		{"20 every 20", "1 every 20", refused, refused},
		{"19 every 20", "1 every 20", "19 every 20; 1 every 20", "19 every 20; 1 every 20"},
		// A task that no order holds is admitted by deadline.
		{"2 every 4", "3 every 6", refused, "2 every 4; 3 every 6"},
		{"2 every 4", "3/3 every 6", refused, "2 every 4; 3/3 every 6"},
		{"2 every 4", "3/4 every 6", refused, refused},
		// Tasks that do not hold admit nobody, even if they hold in no order.
		{"1/4 every 5; 1/4 every 5", "1 every 20", refused, refused},
		{"3 every 5; 3 every 5", "1 every 20", refused, refused},
		{"1 every 4; 1/2 every 8 by 7", "1 every 20", "1 every 4; 1/2 every 8 by 7; 1 every 20", refused},
		// As many tasks as there may be, and one more.
		{"1 every 20; 1 every 20; 1 every 20; 1 every 20", "1 every 20",
			"1 every 20; 1 every 20; 1 every 20; 1 every 20; 1 every 20", "1 every 20; 1 every 20; 1 every 20; 1 every 20; 1 every 20"},
		{"1 every 20; 1 every 20; 1 every 20; 1 every 20", "1 every 1", refused, refused},
		{"1 every 20; 1 every 20; 1 every 20; 1 every 20; 1 every 20", "1 every 20", refused, refused},
		{"1 every 20 by 8; 1/2 every 20; 1 every 20; 1 every 20", "2/2 every 20 by 2", "2/2 every 20 by 2; 1 every 20 by 8; 1/2 every 20; 1 every 20; 1 every 20", refused},
	} {
		checkAdmission(t, c)
	}
}

func TestPoliciesByWhichNobodyIsAdmitted(t *testing.T) {
	for _, text := range []string{"", "3 every 12", "1 every 4; 1/2 every 8"} {
		list := tasksOf(t, text)
		for _, policy := range append([]int{-2, -1, 2, 3}, farNumbers()...) {
			got, ok := impl.AdmitTask(list, plain(1, 20, 20), policy)
			checkTasks(t, fmt.Sprintf("AdmitTask(%q, %d)", text, policy), got, ok, nil, false)
			got, places, ok := impl.AdmitAll(list, policy)
			checkTasks(t, fmt.Sprintf("AdmitAll(%q, %d)", text, policy), got, ok, nil, false)
			if len(places) > 0 {
				t.Errorf("AdmitAll(%q, %d) refuses %v", text, policy, places)
			}
			for at := range list {
				n, ok := impl.MostHigh(list, at, policy)
				checkNumber(t, fmt.Sprint("by ", policy, ", MostHigh"), list, at, n, ok, none)
				n, ok = impl.MostLow(list, at, policy)
				checkNumber(t, fmt.Sprint("by ", policy, ", MostLow"), list, at, n, ok, none)
			}
		}
	}
}

// TestInvalidTasksAreNotAdmitted takes tasks that are not valid, to tasks that would admit a valid one.
func TestInvalidTasksAreNotAdmitted(t *testing.T) {
	for length := range 6 {
		list := slices.Repeat([]impl.Task{critical(1, 1, 20, 20)}, length)
		for policy := range 2 {
			if ok := checkAdmit(t, list, plain(1, 20, 20), policy); ok != (length < 5) {
				t.Errorf("to %d tasks by %d, a task is admitted: %v", length, policy, ok)
			}
			for _, bad := range invalidTasks() {
				if checkAdmit(t, list, bad, policy) {
					t.Errorf("%v is admitted by %d", bad, policy)
				}
			}
		}
	}
}

// TestInvalidListsAdmitNobody takes tasks that are not valid, or too many, for all functions.
func TestInvalidListsAdmitNobody(t *testing.T) {
	lists := invalidLists()
	for length := 6; length <= 8; length++ {
		// They would hold if there were not too many.
		lists = append(lists, slices.Repeat([]impl.Task{plain(1, 20, 20)}, length), slices.Repeat([]impl.Task{critical(1, 1, 20, 20)}, length))
	}
	for i, list := range lists {
		for policy := range 2 {
			if checkHoldsBy(t, list, policy) || checkAdmit(t, list, plain(1, 20, 20), policy) || checkAdmit(t, list, impl.Task{}, policy) {
				t.Errorf("%s hold by %d", told(list), policy)
			}
			for _, at := range []int{-1, 0, 1, 2, 3, 4, 5, len(list) - 1, len(list)} {
				n, ok := impl.MostHigh(list, at, policy)
				checkNumber(t, "MostHigh", list, at, n, ok, none)
				n, ok = impl.MostLow(list, at, policy)
				checkNumber(t, "MostLow", list, at, n, ok, none)
			}
			checkAll(t, list, policy)
		}
		for _, at := range []int{-1, 0, 1, 2, 3, 4, 5, len(list) - 1, len(list)} {
			got, ok := impl.LeaveTask(list, at)
			checkTasks(t, fmt.Sprintf("LeaveTask(%s, %d)", told(list), at), got, ok, nil, false)
		}
		for ticks := -21; ticks <= 21; ticks++ {
			got, ok := impl.RaiseAll(list, ticks)
			checkTasks(t, fmt.Sprintf("RaiseAll(%s, %d)", told(list), ticks), got, ok, nil, false)
		}
		if i%16 == 0 {
			checkList(t, list)
		}
	}
}

func TestLeaveTask(t *testing.T) {
	for _, c := range []struct {
		text string
		at   int
		left string
	}{
		// The last task that leaves.
		{"3 every 12", 0, ""},
		{"1/2 every 4 by 3", 0, ""},
		// The first one, one between and the last one.
		{"1 every 4 by 2; 3 every 12; 2/3 every 8", 0, "3 every 12; 2/3 every 8"},
		{"1 every 4 by 2; 3 every 12; 2/3 every 8", 1, "1 every 4 by 2; 2/3 every 8"},
		{"1 every 4 by 2; 3 every 12; 2/3 every 8", 2, "1 every 4 by 2; 3 every 12"},
		{"5 every 10; 2/6 every 10", 1, "5 every 10"},
		{"1 every 5; 1 every 6; 1 every 7; 1 every 8; 1 every 9", 4, "1 every 5; 1 every 6; 1 every 7; 1 every 8"},
		{"1 every 5; 1 every 6; 1 every 7; 1 every 8; 1 every 9", 2, "1 every 5; 1 every 6; 1 every 8; 1 every 9"},
		// One of equal tasks, and tasks that do not hold before, or behind.
		{"1 every 4; 1 every 4; 2 every 4", 1, "1 every 4; 2 every 4"},
		{"3 every 4; 3 every 4", 0, "3 every 4"},
		{"3 every 4; 3 every 4; 3 every 4", 2, "3 every 4; 3 every 4"},
	} {
		list := tasksOf(t, c.text)
		got, ok := impl.LeaveTask(list, c.at)
		if text := textOfTasks(got); !ok || text != c.left {
			t.Errorf("LeaveTask(%q, %d) = %q, %v, not %q", c.text, c.at, text, ok, c.left)
		}
		for at := -1; at <= len(list); at++ {
			checkLeave(t, list, at)
		}
	}
}

// TestPlacesOfNoTask takes places that are none of a list, with and without tasks behind its end.
func TestPlacesOfNoTask(t *testing.T) {
	for length := range 6 {
		for _, list := range [][]impl.Task{
			slices.Repeat([]impl.Task{critical(1, 2, 20, 20)}, length),
			slices.Repeat([]impl.Task{critical(1, 2, 20, 20)}, 8)[:length],
		} {
			for _, at := range append([]int{-1, length, -2, length + 1, -length, -length - 1, 5, 6}, farNumbers()...) {
				if between(0, at, length-1) {
					continue
				}
				got, ok := impl.LeaveTask(list, at)
				checkTasks(t, fmt.Sprintf("LeaveTask(%s, %d)", told(list), at), got, ok, nil, false)
				for policy := range 2 {
					n, ok := impl.MostHigh(list, at, policy)
					checkNumber(t, "MostHigh", list, at, n, ok, none)
					n, ok = impl.MostLow(list, at, policy)
					checkNumber(t, "MostLow", list, at, n, ok, none)
				}
			}
		}
	}
}

func TestAdmitAll(t *testing.T) {
	for _, c := range []struct {
		text           string
		policy         int
		admitted, refu string
	}{
		{"", 0, "", ""},
		{"", 1, "", ""},
		// The document's example, and what its script admits.
		{"3 every 12; 1 every 4 by 2", 0, "1 every 4 by 2; 3 every 12", ""},
		{"3 every 12; 1 every 4 by 2; 2/3 every 8; 4 every 6", 0, "1 every 4 by 2; 3 every 12; 2/3 every 8", "3"},
		{"3 every 12; 1 every 4 by 2; 2/3 every 8; 4 every 6", 1, "3 every 12; 2/3 every 8", "1 3"},
		{"5 every 10; 2/6 every 10; 4 every 10; 1 every 10", 1, "5 every 10; 2/6 every 10; 1 every 10", "2"},
		{"5 every 10; 2/6 every 10; 4 every 10; 1 every 10", 0, "2/6 every 10; 5 every 10; 1 every 10", "2"},
		// Those behind one that was refused, and one that is refused only for those that came before it.
		{"20 every 20; 1 every 20; 1/2 every 3; 1 every 4", 0, "20 every 20", "1 2 3"},
		{"20 every 20; 1 every 20; 1/2 every 3; 1 every 4", 1, "20 every 20", "1 2 3"},
		{"1 every 20; 20 every 20; 1/2 every 3; 1 every 4", 0, "1 every 20; 1/2 every 3; 1 every 4", "1"},
		{"1 every 20; 20 every 20; 1/2 every 3; 1 every 4", 1, "1 every 20; 1/2 every 3; 1 every 4", "1"},
		{"3 every 5; 3 every 5; 2 every 5; 1 every 20", 0, "3 every 5; 2 every 5", "1 3"},
		{"3 every 5; 3 every 5; 2 every 5; 1 every 20", 1, "3 every 5; 2 every 5", "1 3"},
		// None at all.
		{"1 every 4 by 3; 1/2 every 6 by 5; 1 every 20 by 1", 1, "", "0 1 2"},
		{"1 every 4 by 3; 1/2 every 6 by 5; 1 every 20 by 1", 0, "1 every 20 by 1; 1 every 4 by 3; 1/2 every 6 by 5", ""},
		{"1 every 4 by 3; 1/2 every 6 by 5; 1 every 20; 1 every 20 by 1", 1, "1 every 20", "0 1 3"},
		// Each one goes before those that came before it.
		{"4 every 20 by 10; 3 every 20 by 6; 2 every 20 by 3; 1 every 20 by 1", 0, "1 every 20 by 1; 2 every 20 by 3; 3 every 20 by 6; 4 every 20 by 10", ""},
		{"12 every 20; 1 every 20 by 7; 3/4 every 20 by 6; 1 every 20 by 2; 1 every 20 by 1", 0, "1 every 20 by 1; 1 every 20 by 2; 3/4 every 20 by 6; 1 every 20 by 7; 12 every 20", ""},
		// Tasks are refused that hold in no order with the others, and then one is admitted that goes last, or between.
		{"6 every 12; 1 every 4; 3 every 8 by 3; 2 every 10 by 3; 1 every 20 by 12", 0, "1 every 4; 6 every 12; 1 every 20 by 12", "2 3"},
		{"6 every 12; 1 every 4; 3 every 8 by 3; 2 every 10 by 3; 1 every 20 by 2", 0, "1 every 4; 1 every 20 by 2; 6 every 12", "2 3"},
	} {
		tasks := tasksOf(t, c.text)
		got, places, ok := impl.AdmitAll(tasks, c.policy)
		if text := textOfTasks(got); !ok || text != c.admitted || numbers(places) != c.refu {
			t.Errorf("AdmitAll(%q, %d) = %q, %v, %v, not %q, %q", c.text, c.policy, text, places, ok, c.admitted, c.refu)
		}
		for policy := -1; policy <= 2; policy++ {
			checkAll(t, tasks, policy)
		}
	}
}

// TestAsManyTasksAsMayAsk takes up to 20 tasks and more, of which five are admitted at most.
func TestAsManyTasksAsMayAsk(t *testing.T) {
	light, heavy := plain(1, 20, 20), plain(20, 20, 20)
	for length := range 25 {
		for policy := range 2 {
			same := slices.Repeat([]impl.Task{light}, length)
			if got := checkAll(t, same, policy); length <= 20 && len(got) != min(length, 5) || length > 20 && len(got) > 0 {
				t.Errorf("of %d tasks, %s are admitted by %d", length, told(got), policy)
			}
			// The first one, the last one, and each one between alone is admitted.
			for at := range same {
				one := slices.Repeat([]impl.Task{{}}, length)
				one[at] = light
				if got := checkAll(t, one, policy); length <= 20 && len(got) != 1 || length > 20 && len(got) > 0 {
					t.Errorf("of %d tasks, %s are admitted by %d", length, told(got), policy)
				}
			}
			checkAll(t, slices.Repeat(invalidTasks(), 2)[:length], policy)
			checkAll(t, slices.Repeat([]impl.Task{heavy}, length), policy)
			checkAll(t, slices.Repeat([]impl.Task{light, heavy, {}}, 20)[:length], policy)
		}
	}
	_, places, ok := impl.AdmitAll(make([]impl.Task, 20), impl.ByPlace)
	if !ok || !slices.Equal(places, firstNumbers(20)) {
		t.Errorf("of 20 tasks that are not valid, AdmitAll refuses %v, %v", places, ok)
	}
	for _, length := range []int{21, 22, 40, 256, 1000, 100000} {
		for policy := -1; policy <= 2; policy++ {
			checkAll(t, slices.Repeat([]impl.Task{light}, length), policy)
			checkAll(t, make([]impl.Task, length), policy)
		}
	}
}

// greatest is what a place of tasks with a text is told by a policy: the greatest high need, and the greatest low one, none if
// that is not told.
type greatest struct {
	text       string
	at, policy int
	high, low  int
}

func checkGreatest(t *testing.T, c greatest) {
	t.Helper()
	list := tasksOf(t, c.text)
	n, ok := impl.MostHigh(list, c.at, c.policy)
	checkNumber(t, fmt.Sprint("by ", c.policy, ", MostHigh"), list, c.at, n, ok, c.high)
	n, ok = impl.MostLow(list, c.at, c.policy)
	checkNumber(t, fmt.Sprint("by ", c.policy, ", MostLow"), list, c.at, n, ok, c.low)
	for policy := -1; policy <= 2; policy++ {
		for at := -1; at <= len(list); at++ {
			checkMost(t, list, at, policy)
		}
	}
}

func TestGreatestNeeds(t *testing.T) {
	script := "1 every 4 by 2; 3 every 12; 2/3 every 8"
	for _, c := range []greatest{
		// The script's tasks.
		{script, 2, 0, 3, 3},
		{script, 1, 0, none, 3},
		{script, 0, 0, none, 1},
		// A task alone may need all that it is due: High is equal to Due, and Low equal to High.
		{"1/1 every 20", 0, 0, 20, 1},
		{"1/1 every 20", 0, 1, 20, 1},
		{"3/20 every 20", 0, 0, 20, 20},
		{"3/20 every 20", 0, 1, 20, 20},
		{"1/2 every 20 by 7", 0, 0, 7, 2},
		{"7/7 every 20 by 7", 0, 0, 7, 7},
		{"1/1 every 1", 0, 0, 1, 1},
		{"1/1 every 1", 0, 1, 1, 1},
		{"1 every 20", 0, 0, none, 20},
		{"1 every 20", 0, 1, none, 20},
		{"1 every 20 by 7", 0, 0, none, 7},
		{"20 every 20", 0, 0, none, 20},
		// A critical task needs as much at most as a rule as it has as its high need, whatever else there is.
		{"1 every 4; 2/3 every 8", 1, 0, 7, 3},
		{"1 every 4; 2/3 every 8", 0, 0, none, 2},
		{"1 every 4; 2/3 every 8", 1, 1, 7, 3},
		{"1 every 4; 2/3 every 8", 0, 1, none, 2},
		{"1 every 4; 2/6 every 8", 1, 0, 7, 6},
		{"1 every 4; 2/6 every 8", 0, 0, none, 2},
		// With a greater low need, a task has a longer window in which others that are not critical go before it.
		{"2 every 4; 2/5 every 10 by 9", 1, 0, 7, 4},
		{"2 every 4; 2/3 every 10 by 9", 1, 0, 7, 3},
		{"2 every 4; 2/5 every 10", 1, 0, 8, 4},
		{"2 every 4; 4/5 every 10", 1, 0, 6, 4},
		{"2 every 4; 2/7 every 10", 1, 0, 8, 2},
		// They have the greatest need already.
		{"2 every 4; 2/8 every 10", 1, 0, 8, 2},
		{"2/6 every 10; 4 every 10", 0, 0, 10, 6},
		{"2/6 every 10; 4 every 10", 1, 0, none, 8},
		{"2/6 every 10; 8 every 10", 1, 0, none, 8},
		{"2/10 every 10; 8 every 10", 0, 0, 10, 2},
		{"5 every 10; 2/8 every 10", 1, 1, 8, 2},
		{"5 every 10; 2/8 every 10", 0, 1, none, 5},
		{"20 every 20; 1/1 every 20", 0, 1, none, none},
		// By deadline, with a factor and without one.
		{"5 every 10; 2/6 every 10", 1, 1, 8, 4},
		{"5 every 10; 2/6 every 10", 0, 1, none, 6},
		{"5 every 10; 2/5 every 10", 1, 1, 8, 5},
		{"5 every 10; 5/5 every 10", 1, 1, 5, 5},
		{"4 every 10; 2/6 every 10", 1, 1, 8, 6},
		{"2 every 4; 3 every 6", 0, 1, none, 2},
		{"2 every 4; 3 every 6", 1, 1, none, 3},
		{"2 every 4; 1 every 6", 1, 1, none, 3},
		// What goes behind bounds the need too, by place, and a task that has to hold behind may need more if it goes last.
		{"1 every 20; 1 every 20 by 4; 1/1 every 20 by 6", 0, 0, none, 3},
		{"1 every 20; 1 every 20 by 4; 1/1 every 20 by 6", 1, 0, none, 3},
		{"1 every 20; 1 every 20 by 4; 1/1 every 20 by 6", 2, 0, 4, 1},
		{"1/2 every 20; 1/2 every 20; 1/2 every 20; 1/2 every 20; 1/2 every 20", 0, 0, 12, 2},
		{"1/2 every 20; 1/2 every 20; 1/2 every 20; 1/2 every 20; 1/2 every 20", 4, 1, 12, 2},
		// Tasks that do not hold, though they would with a lesser need.
		{"3/4 every 5; 3 every 5", 0, 0, none, none},
		{"3/4 every 5; 3 every 5", 1, 1, none, none},
		{"4 every 12; 1 every 4", 0, 0, none, none},
		{"4 every 12; 1 every 4", 0, 1, none, 9},
		{"1 every 4; 2/3 every 8 by 7", 0, 1, none, none},
		{"1 every 4; 2/3 every 8 by 7", 1, 1, none, none},
		{"1 every 4; 2/3 every 8 by 7", 1, 0, 6, 3},
	} {
		checkGreatest(t, c)
	}
}

// TestGreatestNeedsAreTheGreatest gives tasks the needs that are told, and one more tick.
func TestGreatestNeedsAreTheGreatest(t *testing.T) {
	s, d := seen{}, &dice{11}
	for i := range 4000 {
		list := d.tasks(4, 10+i%60, i%2 > 0)
		for policy := range 2 {
			if !impl.HoldsBy(list, policy) {
				continue
			}
			for at, x := range list {
				checkMost(t, list, at, policy)
				name := fmt.Sprint("by ", policy, ": ")
				low, ok := impl.MostLow(list, at, policy)
				high := low
				if x.Critical {
					high = x.High
				}
				if !ok || low < x.Low || !impl.HoldsBy(withNeeds(list, at, low, high), policy) || x.Critical && low < high && impl.HoldsBy(withNeeds(list, at, low+1, high), policy) {
					t.Errorf("MostLow(%s, %d, %d) = %d, %v", told(list), at, policy, low, ok)
				}
				s.add(name+"Low is equal to High", x.Critical && low == high)
				s.add(name+"Low is less than High", x.Critical && low < high)
				s.add(name+"Low is as it was", low == x.Low)
				s.add(name+"Low is greater", low > x.Low)
				if !x.Critical {
					continue
				}
				high, ok = impl.MostHigh(list, at, policy)
				if !ok || high < x.High || !impl.HoldsBy(withNeeds(list, at, x.Low, high), policy) || impl.HoldsBy(withNeeds(list, at, x.Low, high+1), policy) {
					t.Errorf("MostHigh(%s, %d, %d) = %d, %v", told(list), at, policy, high, ok)
				}
				s.add(name+"High is equal to Due", high == x.Due)
				s.add(name+"High is less than Due", high < x.Due)
				s.add(name+"High is as it was", high == x.High)
				s.add(name+"High is equal to Low", high == x.Low)
			}
		}
	}
	s.check(t, 16, 20)
}

func TestMostHighIsForCriticalTasks(t *testing.T) {
	for _, x := range allTasks() {
		for policy := range 2 {
			list := []impl.Task{x}
			n, ok := impl.MostHigh(list, 0, policy)
			want := none
			if x.Critical && (policy == 0 || x.Due == x.Every) {
				want = x.Due
			}
			checkNumber(t, fmt.Sprint("by ", policy, ", MostHigh"), list, 0, n, ok, want)
		}
	}
}

func TestRaiseAll(t *testing.T) {
	for _, c := range []struct {
		text   string
		ticks  int
		raised string
	}{
		{"", 0, ""},
		{"", 20, ""},
		{"", -20, ""},
		{"", 21, refused},
		{"", -21, refused},
		{"1 every 4; 2/3 every 8", 0, "1 every 4; 2/3 every 8"},
		{"1 every 4; 2/3 every 8", 1, "2 every 4; 3/4 every 8"},
		{"1 every 4; 2/3 every 8", 3, "4 every 4; 5/6 every 8"},
		{"1 every 4; 2/3 every 8", 4, refused},
		{"1 every 4; 2/3 every 8", -1, refused},
		{"3 every 4; 2/3 every 8", -1, "2 every 4; 1/2 every 8"},
		{"3 every 4; 2/3 every 8", -2, refused},
		{"3/3 every 4 by 3", 0, "3/3 every 4 by 3"},
		{"3/3 every 4 by 3", 1, refused},
		{"3/3 every 4 by 3", -2, "1/1 every 4 by 3"},
		{"3/3 every 4 by 3", -3, refused},
		// As many ticks as can be given to a task, and taken from it.
		{"1 every 20", 19, "20 every 20"},
		{"1/1 every 20", 19, "20/20 every 20"},
		{"1/2 every 20", 18, "19/20 every 20"},
		{"1/2 every 20", 19, refused},
		{"1 every 20", 20, refused},
		{"1 every 20", 21, refused},
		{"20 every 20", -19, "1 every 20"},
		{"20/20 every 20", -19, "1/1 every 20"},
		{"20 every 20", -20, refused},
		{"20 every 20", -21, refused},
		// Whether they hold does not matter.
		{"3 every 4; 3 every 4", 1, "4 every 4; 4 every 4"},
		{"1 every 1; 1/1 every 1", 0, "1 every 1; 1/1 every 1"},
		{"2/3 every 20; 2 every 20; 2/8 every 20; 2 every 20 by 4; 2/2 every 20", 2, "4/5 every 20; 4 every 20; 4/10 every 20; 4 every 20 by 4; 4/4 every 20"},
		{"2/3 every 20; 2 every 20; 2/8 every 20; 2 every 20 by 4; 2/2 every 20", 3, refused},
		{"2/3 every 20; 2 every 20; 2/8 every 20; 2 every 20 by 4; 2/2 every 20", -1, "1/2 every 20; 1 every 20; 1/7 every 20; 1 every 20 by 4; 1/1 every 20"},
	} {
		list := tasksOf(t, c.text)
		got, ok := impl.RaiseAll(list, c.ticks)
		if text := textOfTasks(got); ok != (c.raised != refused) || ok && text != c.raised || !ok && len(got) > 0 {
			t.Errorf("RaiseAll(%q, %d) = %q, %v, not %q", c.text, c.ticks, text, ok, c.raised)
		}
		for ticks := -22; ticks <= 22; ticks++ {
			checkRaise(t, list, ticks)
		}
		for _, ticks := range farNumbers() {
			checkRaise(t, list, ticks)
		}
	}
}

func TestRaiseAllOfAllTasks(t *testing.T) {
	for _, x := range allTasks() {
		for ticks := -21; ticks <= 21; ticks++ {
			checkRaise(t, []impl.Task{x}, ticks)
		}
	}
	// Ticks that would make a task that is not valid a valid one.
	for _, c := range []struct {
		task  impl.Task
		ticks int
	}{{plain(0, 5, 10), 1}, {critical(0, 3, 5, 10), 1}, {plain(-3, 5, 10), 4}, {plain(6, 5, 10), -1}, {critical(3, 6, 5, 10), -1}, {plain(21, 20, 20), -1}} {
		checkRaise(t, []impl.Task{c.task}, c.ticks)
		checkRaise(t, []impl.Task{plain(2, 9, 9), c.task}, c.ticks)
	}
}

// TestAdmissionOfSmallTasks takes each pair of small tasks, and each one that asks behind them.
func TestAdmissionOfSmallTasks(t *testing.T) {
	s := seen{}
	admit := func(list []impl.Task, x impl.Task) {
		for policy := range 2 {
			name := fmt.Sprint(len(list), " by ", policy, ": ")
			admitted := checkAdmit(t, list, x, policy)
			s.add(name+"admitted", admitted)
			s.add(name+"refused", !admitted)
		}
	}
	for _, x := range allTasks() {
		admit(nil, x)
	}
	pairs := smallTasks(6)
	for _, x := range pairs {
		for _, y := range pairs {
			admit([]impl.Task{x}, y)
		}
	}
	triples := smallTasks(4)
	for _, x := range triples {
		for _, y := range triples {
			for _, z := range triples {
				admit([]impl.Task{x, y}, z)
			}
		}
	}
	// By place, no task is refused alone.
	s.check(t, 11, 100)
}

func TestListsOfSmallTasks(t *testing.T) {
	checkList(t, nil)
	checkList(t, []impl.Task{})
	small := smallTasks(4)
	for _, x := range small {
		checkList(t, []impl.Task{x})
		for _, y := range small {
			checkList(t, []impl.Task{x, y})
		}
	}
	eachList([]impl.Task{plain(1, 4, 4), critical(1, 3, 12, 12), critical(2, 5, 16, 20), plain(2, 15, 18)}, func(list []impl.Task) { checkList(t, list) })
}

// TestWhatIsAdmittedHolds lets many tasks ask one after the other, and checks that those that are admitted miss nothing.
func TestWhatIsAdmittedHolds(t *testing.T) {
	s, d := seen{}, &dice{12}
	for i := range 1500 {
		var tasks []impl.Task
		for range d.below(21) {
			tasks = append(tasks, d.task(5, 10+i%50, d.below(4) > 0))
		}
		for policy := range 2 {
			list := checkAll(t, tasks, policy)
			name := fmt.Sprint("by ", policy, ": ")
			s.add(name+"all are admitted", len(list) == len(tasks))
			s.add(name+"some are refused", len(list) < len(tasks))
			s.add(name+"as many as there may be", len(list) == 5)
			s.add(name+"in another order", len(list) == len(tasks) && !sameTasks(list, tasks))
			inTime(t, list, d.jobs(list, 120), policy, 120)
			for at := range list {
				// One that leaves takes no time from the others.
				left, ok := impl.LeaveTask(list, at)
				if !ok || !impl.HoldsBy(left, policy) {
					t.Errorf("without the task %d, %s do not hold by %d", at, told(list), policy)
				}
			}
		}
	}
	// By deadline, tasks stay in the order in which they came.
	s.check(t, 7, 30)
}

// TestTasksThatHoldAreInTheirOrder checks that AssignOrder leaves a list that holds as it is, and that one that is not in its
// order admits nobody by place.
func TestTasksThatHoldAreInTheirOrder(t *testing.T) {
	s, d := seen{}, &dice{13}
	for i := range 20000 {
		list := d.tasks(6, 5+i%40, false)
		byPlace := impl.HoldsBy(list, impl.ByPlace)
		order, ok := impl.AssignOrder(list)
		changed := ok && !slices.Equal(order, firstNumbers(len(list)))
		if byPlace && (!ok || changed) {
			t.Errorf("%s hold, but AssignOrder = %v, %v", told(list), order, ok)
		}
		s.add("hold", byPlace)
		s.add("would hold in another order", changed)
		if changed && checkAdmit(t, list, plain(1, 20, 20), impl.ByPlace) {
			t.Errorf("%s do not hold, but admit a task", told(list))
		}
	}
	s.check(t, 2, 500)
}

// listsOfAdmission are lists that hold by both policies, by one of them and by none, and ones that are not valid.
func listsOfAdmission(t *testing.T) [][]impl.Task {
	lists := [][]impl.Task{
		tasksOf(t, "3 every 12"),
		tasksOf(t, "1 every 4 by 2; 3 every 12; 2/3 every 8"),
		tasksOf(t, "3 every 20; 1 every 20 by 4"),
		tasksOf(t, "4 every 12; 1 every 4"),
		tasksOf(t, "5 every 10; 2/6 every 10"),
		tasksOf(t, "2/6 every 10; 5 every 10"),
		tasksOf(t, "3/4 every 5; 3 every 5"),
		{plain(1, 4, 4), {}, critical(1, 2, 8, 8)},
	}
	for length := range 8 {
		lists = append(lists, someTasks(length), slices.Repeat([]impl.Task{critical(1, 2, 17, 17)}, length))
	}
	return append(lists, slices.Repeat([]impl.Task{plain(1, 20, 20)}, 20), slices.Repeat([]impl.Task{plain(1, 20, 20)}, 21))
}

func TestFunctionsOfAdmissionKeepTheirArguments(t *testing.T) {
	for _, list := range listsOfAdmission(t) {
		for policy := -1; policy <= 2; policy++ {
			checkUnchanged(t, "HoldsBy", list, func(list []impl.Task) { impl.HoldsBy(list, policy) })
			for _, x := range []impl.Task{plain(1, 20, 20), critical(1, 1, 1, 20), critical(1, 2, 20, 20), plain(20, 20, 20), {}} {
				checkApart(t, "AdmitTask", list, func(list []impl.Task) []impl.Task {
					admitted, _ := impl.AdmitTask(list, x, policy)
					return admitted
				})
			}
			checkApart(t, "AdmitAll", list, func(list []impl.Task) []impl.Task {
				admitted, _, _ := impl.AdmitAll(list, policy)
				return admitted
			})
			for at := -1; at <= min(len(list), 6); at++ {
				checkUnchanged(t, "MostHigh", list, func(list []impl.Task) { impl.MostHigh(list, at, policy) })
				checkUnchanged(t, "MostLow", list, func(list []impl.Task) { impl.MostLow(list, at, policy) })
			}
		}
		for at := -1; at <= min(len(list), 6); at++ {
			checkApart(t, "LeaveTask", list, func(list []impl.Task) []impl.Task {
				left, _ := impl.LeaveTask(list, at)
				return left
			})
		}
		for _, ticks := range []int{-21, -20, -1, 0, 1, 2, 20, 21} {
			checkApart(t, "RaiseAll", list, func(list []impl.Task) []impl.Task {
				raised, _ := impl.RaiseAll(list, ticks)
				return raised
			})
		}
	}
}

// TestRefusedPlacesShareNothing overwrites the places that are refused, and their unused capacity.
func TestRefusedPlacesShareNothing(t *testing.T) {
	for _, list := range listsOfAdmission(t) {
		for policy := range 2 {
			admitted, first, _ := impl.AdmitAll(list, policy)
			kept, want := slices.Clone(admitted), slices.Clone(first)
			_, second, _ := impl.AdmitAll(list, policy)
			overwriteNumbers(second)
			if !slices.Equal(first, want) {
				t.Errorf("AdmitAll(%s, %d): two results share memory", told(list), policy)
			}
			overwriteNumbers(first)
			if again, places, _ := impl.AdmitAll(list, policy); !sameTasks(again, kept) || !sameTasks(admitted, kept) || !slices.Equal(places, want) {
				t.Errorf("AdmitAll(%s, %d) = %s, %v after its results were overwritten", told(list), policy, told(again), places)
			}
		}
	}
}

// TestResultsOfRefusals checks that nothing is told together with a false, for each way to come to it.
func TestResultsOfRefusals(t *testing.T) {
	list := tasksOf(t, "1 every 4; 2/3 every 8")
	for name, got := range map[string][]impl.Task{
		"by place":          first(impl.AdmitTask(list, plain(4, 6, 6), impl.ByPlace)),
		"by due":            first(impl.AdmitTask(list, plain(4, 6, 6), impl.ByDue)),
		"by no policy":      first(impl.AdmitTask(list, plain(1, 20, 20), 2)),
		"of no task":        first(impl.AdmitTask(list, impl.Task{}, impl.ByPlace)),
		"of no place":       first(impl.LeaveTask(list, 2)),
		"of too much":       first(impl.RaiseAll(list, 4)),
		"of too many ticks": first(impl.RaiseAll(nil, 21)),
		"of too many tasks": first(impl.LeaveTask(someTasks(6), 0)),
	} {
		if len(got) > 0 {
			t.Errorf("a refusal %s returns %s", name, told(got))
		}
	}
}

// first returns the tasks of a result.
func first(list []impl.Task, _ bool) []impl.Task { return list }
