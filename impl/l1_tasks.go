package impl

import (
	"slices"
	"strconv"
	"strings"
)

// Task needs some time again and again: Low as a rule, and High at most, if it is critical.
type Task struct {
	Low      int
	High     int
	Due      int
	Every    int
	Critical bool
}

// Limits of tasks.
const (
	MaxTasks = 5
	MaxEvery = 20
)

// What stands between the parts of the text of a task, and between the texts of tasks.
const (
	highMark  = "/"
	everyMark = " every "
	byMark    = " by "
	taskMark  = "; "
)

// TaskValid reports whether a task is valid.
func TaskValid(t Task) bool {
	bounded := 1 <= t.Low && t.Low <= t.High && t.High <= t.Due && t.Due <= t.Every && t.Every <= MaxEvery
	return bounded && (t.Critical || t.Low == t.High)
}

// need returns the high need of a task or its low one.
func (t Task) need(high bool) int {
	if high {
		return t.High
	}
	return t.Low
}

// FormatTask returns the text of a task.
func FormatTask(t Task) string {
	if !TaskValid(t) {
		return ""
	}
	return t.needText() + everyMark + strconv.Itoa(t.Every) + t.dueText()
}

func (t Task) needText() string {
	if !t.Critical {
		return strconv.Itoa(t.Low)
	}
	return strconv.Itoa(t.Low) + highMark + strconv.Itoa(t.High)
}

func (t Task) dueText() string {
	if t.Due == t.Every {
		return ""
	}
	return byMark + strconv.Itoa(t.Due)
}

// ParseTask parses a task.
func ParseTask(s string) (Task, bool) {
	t := readTask(s)
	// The reader lets pass more than one text of the same task, such as one with
	// leading zeros; only the one that FormatTask gives it is its text.
	if !TaskValid(t) || FormatTask(t) != s {
		return Task{}, false
	}
	return t, true
}

// readTask reads the parts of a text. What is missing or is no number becomes 0,
// which makes the task invalid.
func readTask(s string) Task {
	needs, times, _ := strings.Cut(s, everyMark)
	low, high, critical := strings.Cut(needs, highMark)
	every, due, early := strings.Cut(times, byMark)
	t := Task{Low: readNumber(low), Every: readNumber(every), Critical: critical}
	t.High, t.Due = t.Low, t.Every
	if critical {
		t.High = readNumber(high)
	}
	if early {
		t.Due = readNumber(due)
	}
	return t
}

func readNumber(s string) int {
	n, err := strconv.Atoi(s)
	if err != nil {
		return 0
	}
	return n
}

// SetValid reports whether tasks are valid, and not too many.
func SetValid(list []Task) bool {
	if len(list) > MaxTasks {
		return false
	}
	for _, t := range list {
		if !TaskValid(t) {
			return false
		}
	}
	return true
}

// FormatSet returns the text of tasks.
func FormatSet(list []Task) string {
	if !SetValid(list) {
		return ""
	}
	texts := make([]string, 0, len(list))
	for _, t := range list {
		texts = append(texts, FormatTask(t))
	}
	return strings.Join(texts, taskMark)
}

// ParseSet parses tasks.
func ParseSet(s string) ([]Task, bool) {
	if s == "" {
		return nil, true
	}
	// One part more than the limit is enough to see that there are too many.
	texts := strings.SplitN(s, taskMark, MaxTasks+1)
	if len(texts) > MaxTasks {
		return nil, false
	}
	list := make([]Task, 0, len(texts))
	for _, text := range texts {
		t, ok := ParseTask(text)
		if !ok {
			return nil, false
		}
		list = append(list, t)
	}
	return list, true
}

// SortDue returns tasks in the order of what they have to keep.
func SortDue(list []Task) []Task {
	if !SetValid(list) {
		return nil
	}
	sorted := make([]Task, 0, len(list))
	for _, t := range list {
		sorted = insertInOrder(sorted, t, Task.dueBefore)
	}
	return sorted
}

func (t Task) dueBefore(other Task) bool {
	if t.Due != other.Due {
		return t.Due < other.Due
	}
	return t.Every < other.Every
}

// insertInOrder puts x into a sorted list, behind all that it need not go before, so that
// equal ones stay in the order in which they are put. It may use the memory of the list.
func insertInOrder[T any](sorted []T, x T, before func(a, b T) bool) []T {
	at := len(sorted)
	for at > 0 && before(x, sorted[at-1]) {
		at--
	}
	return slices.Insert(sorted, at, x)
}

// CriticalOf returns the critical tasks, with their high needs as low ones.
func CriticalOf(list []Task) []Task {
	if !SetValid(list) {
		return nil
	}
	critical := make([]Task, 0, len(list))
	for _, t := range list {
		if t.Critical {
			t.Low = t.High
			critical = append(critical, t)
		}
	}
	return critical
}

// HyperOf returns after how much time all tasks begin together again.
func HyperOf(list []Task) int {
	if !SetValid(list) {
		return 0
	}
	periods := make([]int, 0, len(list))
	for _, t := range list {
		periods = append(periods, t.Every)
	}
	return leastMultiple(periods...)
}

// leastMultiple returns the least number above 0 that can be divided by all numbers,
// which are above 0 themselves.
func leastMultiple(numbers ...int) int {
	multiple := 1
	for _, n := range numbers {
		multiple *= n / greatestDivisor(multiple, n)
	}
	return multiple
}

func greatestDivisor[N int | int64](a N, b N) N {
	for b != 0 {
		a, b = b, a%b
	}
	return a
}
