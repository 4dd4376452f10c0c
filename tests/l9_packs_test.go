package tests

import (
	"fmt"
	"math"
	"runtime"
	"slices"
	"strconv"
	"strings"
	"sync"
	"testing"
	"time"

	"loop.example/dualmodes/impl"
)

// wantPack finds whether each task has one of some processors, apart from the program.
func wantPack(list []impl.Task, where []int, processors int) bool {
	for _, n := range where {
		if !between(0, n, processors-1) {
			return false
		}
	}
	return between(1, processors, 3) && len(where) == len(list) && wantTasks(list)
}

// wantGroup finds the tasks of a processor.
func wantGroup(list []impl.Task, where []int, processor int) []impl.Task {
	var group []impl.Task
	for i, x := range list {
		if where[i] == processor {
			group = append(group, x)
		}
	}
	return group
}

// wantCan finds whether tasks can hold on one processor, by trying all orders where the order counts.
func wantCan(list []impl.Task, policy int) bool {
	if policy == 0 {
		return wantTasks(list) && len(wantOrders(list)) > 0
	}
	return wantHoldsBy(list, policy)
}

// groups finds which of some valid tasks can hold together by a policy. It asks once only for each of their groups.
type groups struct {
	list   []impl.Task
	policy int
	known  map[string]bool
}

func newGroups(list []impl.Task, policy int) groups { return groups{list, policy, map[string]bool{}} }

// can finds whether the tasks can hold whose processor is the one given.
func (g groups) can(where []int, processor int) bool {
	group := wantGroup(g.list[:len(where)], where, processor)
	name := fmt.Sprint(group)
	if _, ok := g.known[name]; !ok {
		g.known[name] = wantCan(group, g.policy)
	}
	return g.known[name]
}

// all finds whether the tasks of each of so many processors can hold.
func (g groups) all(where []int, processors int) bool {
	for processor := range processors {
		if !g.can(where, processor) {
			return false
		}
	}
	return true
}

// first finds the way that first fit takes, nil if there is none.
func (g groups) first(processors int) []int {
	if !between(0, g.policy, 1) {
		return nil
	}
	where := []int{}
	for range g.list {
		fits := -1
		for processor := processors - 1; processor >= 0; processor-- {
			if g.can(append(slices.Clone(where), processor), processor) {
				fits = processor
			}
		}
		if fits < 0 {
			return nil
		}
		where = append(where, fits)
	}
	return where
}

// wantWay writes a way, apart from the program.
func wantWay(list []impl.Task, where []int) string {
	text := ""
	for processor := range 3 {
		if group := wantGroup(list, where, processor); len(group) > 0 {
			text += fmt.Sprintf("processor %d: %s\n", processor, textOfTasks(group))
		}
	}
	return text
}

// checkWhere checks a way and whether there is one; want is nil if there is none.
func checkWhere(t *testing.T, name string, list []impl.Task, processors, policy int, where []int, ok bool, want []int) {
	t.Helper()
	if ok != (want != nil) || !slices.Equal(where, want) {
		t.Errorf("%s(%s, %d, %d) = %v, %v, not %v", name, told(list), processors, policy, where, ok, want)
	}
}

// packed is what became of tasks: the fewest processors, none if three are too few, and whether first fit found no way on some
// number of processors on which there is one.
type packed struct {
	fewest int
	missed bool
}

// checkPacks checks all ways of valid tasks by a policy.
func checkPacks(t *testing.T, list []impl.Task, policy int) packed {
	t.Helper()
	g, p := newGroups(list, policy), packed{fewest: none}
	if ok := impl.CanHold(list, policy); ok != g.can(make([]int, len(list)), 0) {
		t.Errorf("CanHold(%v, %d) = %v", list, policy, ok)
	}
	for processors := 1; processors <= 3; processors++ {
		var best []int
		for _, where := range sequencesOf(len(list), processors) {
			holds := g.all(where, processors)
			if ok := impl.PackHolds(list, where, processors, policy); ok != holds {
				t.Errorf("PackHolds(%v, %v, %d, %d) = %v", list, where, processors, policy, ok)
			}
			if holds && best == nil {
				best = where
			}
		}
		where, ok := impl.PackAny(list, processors, policy)
		checkWhere(t, "PackAny", list, processors, policy, where, ok, best)
		first := g.first(processors)
		where, ok = impl.PackFirst(list, processors, policy)
		checkWhere(t, "PackFirst", list, processors, policy, where, ok, first)
		if best != nil && p.fewest == none {
			p.fewest = processors
		}
		p.missed = p.missed || best != nil && first == nil
	}
	n, ok := impl.FewestFor(list, policy)
	checkNumber(t, "FewestFor", list, policy, n, ok, p.fewest)
	return p
}

// someCounts are numbers of processors, of which there may be only three, and numbers of them.
func someCounts() []int {
	return []int{math.MinInt, -1 << 32, -3, -2, -1, 0, 1, 2, 3, 4, 5, 1<<32 + 1, math.MaxInt - 1, math.MaxInt}
}

// checkWay checks all of what any tasks and any numbers are told, whether these are a way or not.
func checkWay(t *testing.T, list []impl.Task, where []int) {
	t.Helper()
	for _, processors := range someCounts() {
		valid := wantPack(list, where, processors)
		if ok := impl.PackValid(list, where, processors); ok != valid {
			t.Errorf("PackValid(%s, %v, %d) = %v", told(list), where, processors, ok)
		}
		if valid {
			continue
		}
		for policy := range 2 {
			if impl.PackHolds(list, where, processors, policy) {
				t.Errorf("PackHolds(%s, %v, %d, %d) is true", told(list), where, processors, policy)
			}
		}
	}
	checkGroups(t, list, where)
}

// checkGroups checks the groups of any tasks and any numbers, and their text.
func checkGroups(t *testing.T, list []impl.Task, where []int) {
	t.Helper()
	valid, text := wantPack(list, where, 3), ""
	if valid {
		text = wantWay(list, where)
	}
	if s := impl.FormatPack(list, where); s != text {
		t.Errorf("FormatPack(%s, %v) = %q, not %q", told(list), where, s, text)
	}
	for _, processor := range someCounts() {
		var want []impl.Task
		there := valid && between(0, processor, 2)
		if there {
			want = wantGroup(list, where, processor)
		}
		group, ok := impl.GroupOf(list, where, processor)
		checkTasks(t, fmt.Sprintf("GroupOf(%s, %v, %d)", told(list), where, processor), group, ok, want, there)
	}
}

// checkNoPacks checks that tasks that are not valid have no ways on any number of processors.
func checkNoPacks(t *testing.T, list []impl.Task) {
	t.Helper()
	for policy := -1; policy <= 2; policy++ {
		if impl.CanHold(list, policy) {
			t.Errorf("CanHold(%s, %d) is true", told(list), policy)
		}
		for _, processors := range someCounts() {
			checkNoWay(t, list, processors, policy)
		}
		n, ok := impl.FewestFor(list, policy)
		checkNumber(t, "FewestFor", list, policy, n, ok, none)
	}
}

// checkNoWay checks that no way is found.
func checkNoWay(t *testing.T, list []impl.Task, processors, policy int) {
	t.Helper()
	where, ok := impl.PackFirst(list, processors, policy)
	checkWhere(t, "PackFirst", list, processors, policy, where, ok, nil)
	where, ok = impl.PackAny(list, processors, policy)
	checkWhere(t, "PackAny", list, processors, policy, where, ok, nil)
}

func TestLimitOfProcessors(t *testing.T) {
	if impl.MaxProcessors != 3 {
		t.Errorf("MaxProcessors is %d", impl.MaxProcessors)
	}
}

func TestPacksOfTheExample(t *testing.T) {
	list := tasksOf(t, "3 every 5; 3 every 5")
	for policy := range 2 {
		if n, ok := impl.FewestFor(list, policy); !ok || n != 2 {
			t.Errorf("FewestFor(%s, %d) = %d, %v", told(list), policy, n, ok)
		}
		if impl.CanHold(list, policy) || !impl.CanHold(list[:1], policy) {
			t.Errorf("%s can hold on one processor by %d, or one of them alone cannot", told(list), policy)
		}
		where, ok := impl.PackFirst(list, 2, policy)
		checkWhere(t, "PackFirst", list, 2, policy, where, ok, []int{0, 1})
		if s := impl.FormatPack(list, where); s != "processor 0: 3 every 5\nprocessor 1: 3 every 5\n" {
			t.Errorf("FormatPack(%s, %v) = %q", told(list), where, s)
		}
		checkNoWay(t, list, 1, policy)
	}
}

// packing is what first fit finds for tasks with a text on one, two and three processors, and the first way of all there are,
// refused if there is none, and the fewest processors, none if three are too few.
type packing struct {
	text       string
	first, all [3]string
	fewest     int
}

func checkPacking(t *testing.T, c packing, policy int) {
	t.Helper()
	list := tasksOf(t, c.text)
	for i := range 3 {
		where, ok := impl.PackFirst(list, i+1, policy)
		if ok != (c.first[i] != refused) || ok && numbers(where) != c.first[i] || !ok && len(where) > 0 {
			t.Errorf("PackFirst(%q, %d, %d) = %v, %v, not %q", c.text, i+1, policy, where, ok, c.first[i])
		}
		where, ok = impl.PackAny(list, i+1, policy)
		if ok != (c.all[i] != refused) || ok && numbers(where) != c.all[i] || !ok && len(where) > 0 {
			t.Errorf("PackAny(%q, %d, %d) = %v, %v, not %q", c.text, i+1, policy, where, ok, c.all[i])
		}
	}
	n, ok := impl.FewestFor(list, policy)
	checkNumber(t, "FewestFor", list, policy, n, ok, c.fewest)
	if ok := impl.CanHold(list, policy); ok != (c.fewest == 1) {
		t.Errorf("CanHold(%q, %d) = %v", c.text, policy, ok)
	}
	checkPacks(t, list, policy)
}

// onlyOn writes a way that is found first on least processors or more, and on no fewer.
func onlyOn(least int, way string) [3]string {
	ways := [3]string{refused, refused, refused}
	for i := least - 1; i < 3; i++ {
		ways[i] = way
	}
	return ways
}

// tooMuch stands for the processors of tasks for which three are too few.
const tooMuch = 4

// found is what becomes of tasks that need so many processors, and for which first fit finds the first way of all there are.
func found(text string, fewest int, way string) packing {
	if fewest == tooMuch {
		return packing{text, onlyOn(tooMuch, ""), onlyOn(tooMuch, ""), none}
	}
	return packing{text, onlyOn(fewest, way), onlyOn(fewest, way), fewest}
}

func TestPacksByBothPolicies(t *testing.T) {
	for _, c := range []packing{
		// No tasks, one, and as many as there may be.
		found("", 1, ""),
		found("3 every 5", 1, "0"),
		found("20/20 every 20", 1, "0"),
		found("1 every 5; 1 every 5; 1 every 5; 1 every 5; 1 every 5", 1, "0 0 0 0 0"),
		found("1 every 5; 1 every 5; 1 every 5; 1 every 5; 2 every 5", 2, "0 0 0 0 1"),
		found("2 every 5; 1 every 5; 1 every 5; 1 every 5; 1 every 5", 2, "0 0 0 0 1"),
		found("1 every 20; 20 every 20; 1 every 20; 20 every 20; 1 every 20", 3, "0 1 0 2 0"),
		// They need exactly one processor, two and three, and three are too few.
		found("3 every 5; 2 every 5", 1, "0 0"),
		found("3 every 5; 3 every 5", 2, "0 1"),
		found("3 every 5; 3 every 5; 3 every 5", 3, "0 1 2"),
		found("3 every 5; 3 every 5; 3 every 5; 3 every 5", tooMuch, ""),
		found("20 every 20; 20 every 20; 20 every 20; 1 every 20", tooMuch, ""),
		found("20 every 20; 20 every 20; 20 every 20; 20 every 20; 20 every 20", tooMuch, ""),
		// A task goes back to a processor before the last one that was taken.
		found("3 every 5; 4 every 5; 2 every 5; 1 every 5", 2, "0 1 0 1"),
		found("3 every 5; 3 every 5; 1 every 5; 2/4 every 10", 2, "0 1 0 1"),
		found("20 every 20; 20/20 every 20; 2 every 9; 3 every 9; 4 every 9", 3, "0 1 2 2 2"),
		// The first of several ways leaves as many tasks as can be on the first processors.
		found("4 every 5; 1 every 5; 4 every 5; 1 every 5", 2, "0 0 1 1"),
		found("1 every 5; 1 every 6; 20 every 20", 2, "0 0 1"),
		// High needs count, but not those that come together with low ones only.
		found("1/4 every 5; 1/4 every 5", 2, "0 1"),
		found("1/3 every 5; 1/3 every 5; 1 every 5", 2, "0 1 0"),
		found("5 every 10; 2/8 every 10", 1, "0 0"),
		// First fit finds no way, though there is one, and where it does, that is the first one.
		{"2 every 5; 2 every 5; 3 every 5; 3 every 5", [3]string{refused, refused, "0 0 1 2"}, [3]string{refused, "0 1 0 1", "0 0 1 2"}, 2},
		{"5 every 5; 2 every 5; 2 every 5; 3 every 5; 3 every 5", onlyOn(tooMuch, ""), onlyOn(3, "0 1 2 1 2"), 3},
		{"2 every 5; 5 every 5; 2 every 5; 3 every 5; 3 every 5", onlyOn(tooMuch, ""), onlyOn(3, "0 1 2 0 2"), 3},
		{"3 every 10; 4 every 10; 6 every 10; 7 every 10", [3]string{refused, refused, "0 0 1 2"}, [3]string{refused, "0 1 1 0", "0 0 1 2"}, 2},
	} {
		for policy := range 2 {
			checkPacking(t, c, policy)
		}
	}
}

func TestPacksThatDependOnThePolicy(t *testing.T) {
	for _, c := range []struct {
		text     string
		byPlace  int
		placeWay string
		byDue    int
		dueWay   string
	}{
		// Tasks hold together only in another order than the one in which they stand.
		{"3 every 12; 1 every 4 by 2", 1, "0 0", tooMuch, ""},
		{"4 every 12; 1 every 4; 20 every 20", 2, "0 0 1", 2, "0 0 1"},
		{"20 every 20; 4 every 12; 1 every 4", 2, "0 1 1", 2, "0 1 1"},
		{"4 every 20 by 10; 3 every 20 by 6; 2 every 20 by 3; 1 every 20 by 1", 1, "0 0 0 0", tooMuch, ""},
		{"4 every 20 by 9; 3 every 20 by 6; 2 every 20 by 3; 1 every 20 by 1", 2, "0 0 0 1", tooMuch, ""},
		// A task that fits nowhere by deadline, as the first one, between and the last one.
		{"1 every 4 by 3", 1, "0", tooMuch, ""},
		{"1 every 4 by 3; 1 every 5", 1, "0 0", tooMuch, ""},
		{"1 every 5; 1 every 4 by 3; 1 every 5", 1, "0 0 0", tooMuch, ""},
		{"20 every 20; 1 every 20; 1 every 20 by 19", 2, "0 1 1", tooMuch, ""},
		// By deadline, a processor can be busy at all times, while a critical task can go before others by place.
		{"2 every 4; 3 every 6", 2, "0 1", 1, "0 0"},
		{"2 every 4; 3 every 6; 3 every 6; 2 every 4", 2, "0 1 1 0", 2, "0 0 1 1"},
		{"5 every 10; 2/9 every 10", 1, "0 0", 2, "0 1"},
		{"5 every 10; 2/9 every 10; 5 every 10", 2, "0 0 1", 2, "0 1 0"},
	} {
		checkPacking(t, found(c.text, c.byPlace, c.placeWay), impl.ByPlace)
		checkPacking(t, found(c.text, c.byDue, c.dueWay), impl.ByDue)
	}
}

func TestCanHold(t *testing.T) {
	for _, c := range []struct {
		text           string
		byPlace, byDue bool
	}{
		{"", true, true},
		{"20 every 20", true, true},
		{"1/20 every 20", true, true},
		{"1/2 every 4 by 3", true, false},
		// The order in which they stand does not count by place.
		{"3 every 12; 1 every 4 by 2", true, false},
		{"1 every 4 by 2; 3 every 12", true, false},
		{"4 every 12; 1 every 4", true, true},
		{"1 every 4; 4 every 12", true, true},
		{"5 every 10; 2/6 every 10", true, true},
		{"5 every 10; 2/9 every 10", true, false},
		{"2/9 every 10; 5 every 10", true, false},
		// No order holds.
		{"2 every 4; 3 every 6", false, true},
		{"2 every 4; 3/4 every 6", false, false},
		{"2 every 4 by 3; 2/5 every 10 by 6", false, false},
		{"1/4 every 5; 1/4 every 5", false, false},
		{"1 every 5; 1 every 5; 1 every 5; 1 every 5; 1 every 5", true, true},
		{"1 every 5; 1 every 5; 1 every 5; 1 every 5; 2 every 5", false, false},
	} {
		list := tasksOf(t, c.text)
		for policy, want := range []bool{c.byPlace, c.byDue} {
			if ok := impl.CanHold(list, policy); ok != want {
				t.Errorf("CanHold(%q, %d) = %v", c.text, policy, ok)
			}
		}
	}
}

// TestPoliciesByWhichNothingIsPacked takes policies that there are not, to tasks that each processor holds by the two others.
func TestPoliciesByWhichNothingIsPacked(t *testing.T) {
	for _, text := range []string{"", "3 every 12", "1 every 4; 1/2 every 8", "1 every 5; 1 every 5; 1 every 5; 1 every 5; 1 every 5"} {
		list := tasksOf(t, text)
		for _, policy := range append([]int{-2, -1, 2, 3}, farNumbers()...) {
			if impl.CanHold(list, policy) {
				t.Errorf("CanHold(%q, %d) is true", text, policy)
			}
			for _, processors := range someCounts() {
				checkNoWay(t, list, processors, policy)
				if impl.PackHolds(list, make([]int, len(list)), processors, policy) {
					t.Errorf("PackHolds(%q, %d, %d) is true", text, processors, policy)
				}
			}
			n, ok := impl.FewestFor(list, policy)
			checkNumber(t, "FewestFor", list, policy, n, ok, none)
		}
	}
}

// TestNumbersOfProcessorsThatThereAreNot takes tasks that one processor holds.
func TestNumbersOfProcessorsThatThereAreNot(t *testing.T) {
	for length := range 6 {
		list := slices.Repeat([]impl.Task{plain(1, 20, 20)}, length)
		where := make([]int, length)
		for _, processors := range someCounts() {
			for policy := range 2 {
				valid := between(1, processors, 3)
				if ok := impl.PackHolds(list, where, processors, policy); ok != valid {
					t.Errorf("PackHolds(%s, %d, %d) = %v", told(list), processors, policy, ok)
				}
				if !valid {
					checkNoWay(t, list, processors, policy)
				}
			}
			if ok := impl.PackValid(list, where, processors); ok != between(1, processors, 3) {
				t.Errorf("PackValid(%s, %d) = %v", told(list), processors, ok)
			}
		}
		checkWay(t, list, where)
	}
}

func TestPackHolds(t *testing.T) {
	for _, c := range []struct {
		text           string
		where          []int
		processors     int
		byPlace, byDue bool
	}{
		// No tasks, on one processor and on as many as there may be.
		{"", nil, 1, true, true},
		{"", []int{}, 3, true, true},
		{"", nil, 4, false, false},
		{"", nil, 0, false, false},
		{"", []int{0}, 1, false, false},
		// Processors without tasks, behind the last one with tasks, in front of the first one, and between.
		{"3 every 5", []int{0}, 1, true, true},
		{"3 every 5", []int{0}, 3, true, true},
		{"3 every 5", []int{2}, 3, true, true},
		{"3 every 5; 3 every 5", []int{0, 2}, 3, true, true},
		{"3 every 5; 3 every 5", []int{2, 1}, 3, true, true},
		{"3 every 5; 3 every 5", []int{2, 1}, 2, false, false},
		// Both tasks are too much for each processor, whichever it is.
		{"3 every 5; 3 every 5", []int{0, 0}, 1, false, false},
		{"3 every 5; 3 every 5", []int{0, 0}, 3, false, false},
		{"3 every 5; 3 every 5", []int{1, 1}, 3, false, false},
		{"3 every 5; 3 every 5", []int{2, 2}, 3, false, false},
		{"3 every 5; 3 every 5", []int{0, 1}, 2, true, true},
		{"3 every 5; 3 every 5", []int{1, 0}, 2, true, true},
		// One processor alone does not hold, the first one, the one between or the last one.
		{"3 every 5; 3 every 5; 1 every 5; 1 every 5", []int{0, 0, 1, 2}, 3, false, false},
		{"3 every 5; 3 every 5; 1 every 5; 1 every 5", []int{1, 1, 0, 2}, 3, false, false},
		{"3 every 5; 3 every 5; 1 every 5; 1 every 5", []int{2, 2, 0, 1}, 3, false, false},
		{"3 every 5; 3 every 5; 1 every 5; 1 every 5", []int{2, 1, 2, 2}, 3, true, true},
		// In another order, and by one policy only.
		{"3 every 12; 1 every 4 by 2", []int{2, 2}, 3, true, false},
		{"3 every 12; 1 every 4 by 2", []int{0, 1}, 3, true, false},
		{"4 every 12; 20 every 20; 1 every 4", []int{1, 0, 1}, 2, true, true},
		{"2 every 4; 3 every 6", []int{0, 0}, 1, false, true},
		{"5 every 10; 2/9 every 10", []int{1, 1}, 2, true, false},
	} {
		list := tasksOf(t, c.text)
		for policy, want := range []bool{c.byPlace, c.byDue} {
			if ok := impl.PackHolds(list, c.where, c.processors, policy); ok != want {
				t.Errorf("PackHolds(%q, %v, %d, %d) = %v", c.text, c.where, c.processors, policy, ok)
			}
		}
		for _, policy := range append([]int{-1, 2}, farNumbers()...) {
			if impl.PackHolds(list, c.where, c.processors, policy) {
				t.Errorf("PackHolds(%q, %v, %d, %d) is true", c.text, c.where, c.processors, policy)
			}
		}
		checkWay(t, list, c.where)
	}
}

func TestGroupsAndTheirText(t *testing.T) {
	text := "3 every 5; 3 every 5; 1 every 5; 2/4 every 10"
	for _, c := range []struct {
		text  string
		where []int
		want  string
	}{
		{"", nil, ""},
		{"", []int{}, ""},
		{"1/2 every 4 by 3", []int{0}, "processor 0: 1/2 every 4 by 3\n"},
		{"1/2 every 4 by 3", []int{1}, "processor 1: 1/2 every 4 by 3\n"},
		{"1/2 every 4 by 3", []int{2}, "processor 2: 1/2 every 4 by 3\n"},
		{"1/2 every 4 by 3", []int{3}, ""},
		{text, []int{0, 1, 0, 1}, "processor 0: 3 every 5; 1 every 5\nprocessor 1: 3 every 5; 2/4 every 10\n"},
		{text, []int{0, 0, 0, 0}, "processor 0: 3 every 5; 3 every 5; 1 every 5; 2/4 every 10\n"},
		{text, []int{2, 2, 2, 2}, "processor 2: 3 every 5; 3 every 5; 1 every 5; 2/4 every 10\n"},
		// A processor without tasks in front of one with tasks, between and behind the last one.
		{text, []int{2, 1, 1, 2}, "processor 1: 3 every 5; 1 every 5\nprocessor 2: 3 every 5; 2/4 every 10\n"},
		{text, []int{2, 0, 0, 0}, "processor 0: 3 every 5; 1 every 5; 2/4 every 10\nprocessor 2: 3 every 5\n"},
		{text, []int{1, 0, 0, 1}, "processor 0: 3 every 5; 1 every 5\nprocessor 1: 3 every 5; 2/4 every 10\n"},
		{text, []int{2, 1, 0, 0}, "processor 0: 1 every 5; 2/4 every 10\nprocessor 1: 3 every 5\nprocessor 2: 3 every 5\n"},
		// The tasks need not hold.
		{"20 every 20; 1 every 1; 20 every 20", []int{1, 0, 1}, "processor 0: 1 every 1\nprocessor 1: 20 every 20; 20 every 20\n"},
		// No ways: too few numbers, too many, and processors that there are not.
		{text, nil, ""},
		{text, []int{0, 1, 0}, ""},
		{text, []int{0, 1, 0, 1, 0}, ""},
		{text, []int{0, 1, 3, 1}, ""},
		{text, []int{-1, 1, 0, 1}, ""},
	} {
		list := tasksOf(t, c.text)
		if s := impl.FormatPack(list, c.where); s != c.want {
			t.Errorf("FormatPack(%q, %v) = %q, not %q", c.text, c.where, s, c.want)
		}
		for processor := range 3 {
			// The text of a processor's tasks is just what stands in its line.
			group, ok := impl.GroupOf(list, c.where, processor)
			line := ""
			if len(group) > 0 {
				line = "processor " + strconv.Itoa(processor) + ": " + impl.FormatSet(group) + "\n"
			}
			if !strings.Contains(c.want, line) || ok != impl.PackValid(list, c.where, 3) {
				t.Errorf("GroupOf(%q, %v, %d) = %v, %v", c.text, c.where, processor, group, ok)
			}
		}
		checkWay(t, list, c.where)
	}
}

// TestAllNumbersForFewTasks takes each sequence of numbers around those of processors, and of each length around the one of the
// list, for lists of each length.
func TestAllNumbersForFewTasks(t *testing.T) {
	for length := range 5 {
		list, ways := someTasks(length), 0
		eachSequence(length+1, -1, 3, func(where []int) {
			checkWay(t, list, where)
			if impl.PackValid(list, where, 3) {
				ways++
			}
		})
		if want := len(sequencesOf(length, 3)); ways != want {
			t.Errorf("%d tasks have %d ways, not %d", length, ways, want)
		}
	}
	for _, where := range sequencesOf(5, 4) {
		checkWay(t, someTasks(5), where)
	}
}

// TestNumbersThatAreNoProcessors puts a number at each place of each way of five tasks that all processors hold.
func TestNumbersThatAreNoProcessors(t *testing.T) {
	list := slices.Repeat([]impl.Task{critical(1, 1, 20, 20)}, 5)
	for processors := 1; processors <= 3; processors++ {
		for i, where := range sequencesOf(5, processors) {
			for policy := range 2 {
				if !impl.PackHolds(list, where, processors, policy) {
					t.Errorf("PackHolds(%s, %v, %d, %d) is false", told(list), where, processors, policy)
				}
			}
			at := i % 5
			for _, n := range []int{-1, processors, processors + 1, -processors, 64, 1 << 32, 1<<32 + where[at], where[at] - 1<<32, math.MaxInt, math.MinInt, math.MinInt + where[at]} {
				wrong := slices.Clone(where)
				wrong[at] = n
				checkNoPack(t, list, wrong, processors)
			}
			checkNoPack(t, list, where[:4], processors)
			checkNoPack(t, list[:4], where, processors)
			checkNoPack(t, list, append(slices.Clone(where), 0), processors)
			checkNoPack(t, list, nil, processors)
			checkNoPack(t, nil, where, processors)
			// There may be a number, and a task, behind the end.
			checkNoPack(t, list, where[:3], processors)
			checkNoPack(t, list[:2], where[:3], processors)
		}
	}
	checkNoPack(t, list, make([]int, 100000), 3)
}

// checkNoPack checks that numbers are no way of tasks on so many processors, whatever the policy.
func checkNoPack(t *testing.T, list []impl.Task, where []int, processors int) {
	t.Helper()
	if impl.PackValid(list, where, processors) {
		t.Errorf("PackValid(%s, %v, %d) is true", told(list), where[:min(len(where), 7)], processors)
	}
	for policy := -1; policy <= 2; policy++ {
		if impl.PackHolds(list, where, processors, policy) {
			t.Errorf("PackHolds(%s, %v, %d, %d) is true", told(list), where[:min(len(where), 7)], processors, policy)
		}
	}
	if wantPack(list, where, 3) {
		return
	}
	if s := impl.FormatPack(list, where); s != "" {
		t.Errorf("FormatPack(%s, %v) = %q", told(list), where[:min(len(where), 7)], s)
	}
	for processor := -1; processor <= 3; processor++ {
		if group, ok := impl.GroupOf(list, where, processor); ok || len(group) > 0 {
			t.Errorf("GroupOf(%s, %v, %d) = %v, %v", told(list), where[:min(len(where), 7)], processor, group, ok)
		}
	}
}

func TestInvalidListsAreNotPacked(t *testing.T) {
	lists := invalidLists()
	for length := 6; length <= 8; length++ {
		// They would hold if there were not too many.
		lists = append(lists, slices.Repeat([]impl.Task{plain(1, 20, 20)}, length), slices.Repeat([]impl.Task{critical(1, 1, 20, 20)}, length))
	}
	for _, list := range lists {
		checkNoPacks(t, list)
		inTurn := make([]int, len(list))
		for i := range inTurn {
			inTurn[i] = i % 3
		}
		for _, where := range [][]int{nil, make([]int, len(list)), make([]int, len(list)-1), {0, 1, 2, 0, 1}, inTurn} {
			for processors := 1; processors <= 3; processors++ {
				checkNoPack(t, list, where, processors)
			}
		}
	}
	// As many tasks as cannot be tried in all ways.
	many := slices.Repeat([]impl.Task{plain(1, 20, 20)}, 100000)
	checkNoPacks(t, many)
	checkNoPack(t, many, make([]int, len(many)), 3)
}

// TestPacksOfSmallTasks takes each one of all tasks, each pair of small ones, and many lists of up to five.
func TestPacksOfSmallTasks(t *testing.T) {
	for policy := -1; policy <= 2; policy++ {
		checkPacks(t, nil, policy)
		checkPacks(t, []impl.Task{}, policy)
		for i, x := range allTasks() {
			if i%4 == 0 || x.Every <= 8 {
				checkPacks(t, []impl.Task{x}, policy)
			}
		}
	}
	small := smallTasks(5)
	for _, x := range small {
		for _, y := range small {
			for policy := range 2 {
				checkPacks(t, []impl.Task{x, y}, policy)
			}
		}
	}
	for _, kinds := range [][]impl.Task{
		{plain(2, 5, 5), plain(3, 5, 5), critical(1, 4, 5, 5)},
		{plain(1, 4, 4), critical(1, 3, 12, 12), plain(2, 3, 18)},
	} {
		eachList(kinds, func(list []impl.Task) {
			for policy := range 2 {
				checkPacks(t, list, policy)
			}
		})
	}
}

// TestPacksOfManyTasks takes light and heavy tasks, so that all numbers of processors are seen, and first fit that finds no way
// though there is one.
func TestPacksOfManyTasks(t *testing.T) {
	s, d := seen{}, &dice{21}
	for i := range 1600 {
		var list []impl.Task
		for range 1 + d.below(5) {
			list = append(list, d.task(2+d.below(15), 20+i%80, d.below(8) > 0))
		}
		for policy := range 2 {
			p := checkPacks(t, list, policy)
			name := fmt.Sprint("by ", policy, ": ")
			s.add(fmt.Sprint(name, p.fewest, " processors"), true)
			s.add(name+"first fit finds no way", p.missed)
		}
	}
	s.check(t, 10, 8)
}

// TestFirstFitIsFirst checks that a way of first fit is the first of all there are: each task is on the first processor on which
// it can be, as tasks that hold together hold without one of them as well.
func TestFirstFitIsFirst(t *testing.T) {
	s, d := seen{}, &dice{22}
	for i := range 2500 {
		list := d.tasks(3, 20+i%70, d.below(6) > 0)
		for policy := range 2 {
			fewest, ok := impl.FewestFor(list, policy)
			for processors := 1; processors <= 3; processors++ {
				where, first := impl.PackFirst(list, processors, policy)
				best, there := impl.PackAny(list, processors, policy)
				if there != (ok && processors >= fewest) || first && (!there || !slices.Equal(where, best)) {
					t.Errorf("of %s on %d by %d, first fit finds %v, all ways %v, and the fewest are %d", told(list), processors, policy, where, best, fewest)
				}
				s.add(fmt.Sprint("a way by ", policy), first)
			}
		}
	}
	s.check(t, 2, 1000)
}

// TestWhatIsPackedHolds runs the tasks of each processor of a way, and checks that they miss nothing.
func TestWhatIsPackedHolds(t *testing.T) {
	s, d := seen{}, &dice{23}
	for i := range 2000 {
		var list []impl.Task
		for range 1 + d.below(5) {
			list = append(list, d.task(5, 20+i%80, d.below(8) > 0))
		}
		for policy := range 2 {
			for processors := 1; processors <= 3; processors++ {
				if where, ok := impl.PackFirst(list, processors, policy); ok {
					runPack(t, d, list, where, processors, policy)
					s.add(fmt.Sprint("first fit by ", policy, " on ", processors), true)
				}
				if where, ok := impl.PackAny(list, processors, policy); ok {
					runPack(t, d, list, where, processors, policy)
					s.add(fmt.Sprint("all ways by ", policy, " on ", processors), true)
				}
			}
		}
	}
	s.check(t, 12, 100)
}

// runPack runs the tasks of each processor of a way that holds, by place in an order in which they hold.
func runPack(t *testing.T, d *dice, list []impl.Task, where []int, processors, policy int) {
	t.Helper()
	if !impl.PackHolds(list, where, processors, policy) {
		t.Errorf("PackHolds(%s, %v, %d, %d) is false", told(list), where, processors, policy)
	}
	together := 0
	for processor := range 3 {
		group, ok := impl.GroupOf(list, where, processor)
		if !ok || !impl.CanHold(group, policy) {
			t.Errorf("%s cannot hold by %d on the processor %d of %v", told(group), policy, processor, where)
		}
		together += len(group)
		if policy == impl.ByPlace {
			order, _ := impl.AssignOrder(group)
			group, ok = impl.PutOrder(group, order)
		}
		if !ok || !impl.HoldsBy(group, policy) {
			t.Errorf("%s do not hold by %d on the processor %d of %v", told(group), policy, processor, where)
		}
		inTime(t, group, d.jobs(group, 60), policy, 90)
	}
	if together != len(list) {
		t.Errorf("%v gives %d tasks a processor, of %s", where, together, told(list))
	}
}

// listsOfPacks are lists that need each number of processors, ones for which three are too few, and ones that are not valid.
func listsOfPacks(t *testing.T) [][]impl.Task {
	lists := [][]impl.Task{
		nil,
		tasksOf(t, "3 every 5; 3 every 5"),
		tasksOf(t, "3 every 12; 1 every 4 by 2"),
		tasksOf(t, "2 every 5; 2 every 5; 3 every 5; 3 every 5"),
		tasksOf(t, "5 every 5; 2 every 5; 2 every 5; 3 every 5; 3 every 5"),
		tasksOf(t, "3 every 5; 3 every 5; 3 every 5; 3 every 5"),
		tasksOf(t, "3 every 5; 3 every 5; 1 every 5; 2/4 every 10"),
		{plain(1, 4, 4), {}, critical(1, 2, 8, 8)},
	}
	for length := range 8 {
		lists = append(lists, someTasks(length), slices.Repeat([]impl.Task{critical(1, 2, 17, 17)}, length))
	}
	return lists
}

// waysFor are ways of tasks, and numbers that are none.
func waysFor(list []impl.Task) [][]int {
	ways := [][]int{nil, {0}, {-1}, {3}, {0, 1, 2, 3}, {0, 1, 2, 0, 1, 2}, make([]int, len(list)), firstNumbers(len(list))}
	if len(list) <= 5 {
		all := sequencesOf(len(list), 3)
		ways = append(ways, all[len(all)/2], all[len(all)-1])
	}
	return ways
}

func TestFunctionsOfPacksKeepTheirTasks(t *testing.T) {
	for _, list := range listsOfPacks(t) {
		for policy := -1; policy <= 2; policy++ {
			for processors := 0; processors <= 4; processors++ {
				checkUnchanged(t, "PackFirst", list, func(list []impl.Task) { impl.PackFirst(list, processors, policy) })
				checkUnchanged(t, "PackAny", list, func(list []impl.Task) { impl.PackAny(list, processors, policy) })
			}
			checkUnchanged(t, "FewestFor", list, func(list []impl.Task) { impl.FewestFor(list, policy) })
			checkUnchanged(t, "CanHold", list, func(list []impl.Task) { impl.CanHold(list, policy) })
			for _, where := range waysFor(list) {
				checkUnchanged(t, "PackHolds", list, func(list []impl.Task) { impl.PackHolds(list, where, 3, policy) })
			}
		}
		for _, where := range waysFor(list) {
			checkUnchanged(t, "PackValid", list, func(list []impl.Task) { impl.PackValid(list, where, 3) })
			checkUnchanged(t, "FormatPack", list, func(list []impl.Task) { impl.FormatPack(list, where) })
			for processor := -1; processor <= 3; processor++ {
				checkApart(t, "GroupOf", list, func(list []impl.Task) []impl.Task {
					group, _ := impl.GroupOf(list, where, processor)
					return group
				})
			}
		}
	}
}

func TestFunctionsOfPacksKeepTheirWays(t *testing.T) {
	for _, list := range listsOfPacks(t) {
		for _, where := range waysFor(list) {
			memory := slices.Concat([]int{-7}, where, slices.Repeat([]int{-7}, 8))
			before := slices.Clone(memory)
			argument := memory[1 : 1+len(where)]
			for n := range 4 {
				impl.PackValid(list, argument, n)
				impl.GroupOf(list, argument, n)
				impl.PackHolds(list, argument, n, impl.ByPlace)
				impl.PackHolds(list, argument, n, impl.ByDue)
			}
			impl.FormatPack(list, argument)
			if !slices.Equal(memory, before) {
				t.Errorf("a way that was %v is %v", before, memory)
			}
		}
	}
}

// TestWaysShareNothing overwrites ways, and their unused capacity.
func TestWaysShareNothing(t *testing.T) {
	check := func(name string, list []impl.Task, policy int, f func([]impl.Task, int, int) ([]int, bool)) {
		for processors := 1; processors <= 3; processors++ {
			first, _ := f(list, processors, policy)
			want := slices.Clone(first)
			second, _ := f(list, processors, policy)
			overwriteNumbers(second)
			if !slices.Equal(first, want) {
				t.Errorf("%s(%s, %d, %d): two results share memory", name, told(list), processors, policy)
			}
			overwriteNumbers(first)
			if again, _ := f(list, processors, policy); !slices.Equal(again, want) {
				t.Errorf("%s(%s, %d, %d) = %v after its results were overwritten, not %v", name, told(list), processors, policy, again, want)
			}
		}
	}
	for _, list := range listsOfPacks(t) {
		for policy := range 2 {
			check("PackFirst", list, policy, impl.PackFirst)
			check("PackAny", list, policy, impl.PackAny)
		}
	}
}

// allPacks writes all that some tasks are told of processors.
func allPacks(list []impl.Task) string {
	var text strings.Builder
	for policy := -1; policy <= 2; policy++ {
		n, ok := impl.FewestFor(list, policy)
		fmt.Fprintln(&text, impl.CanHold(list, policy), n, ok)
		for processors := 0; processors <= 4; processors++ {
			where, ok := impl.PackFirst(list, processors, policy)
			fmt.Fprintln(&text, where, ok, impl.FormatPack(list, where), impl.PackHolds(list, where, processors, policy))
			where, ok = impl.PackAny(list, processors, policy)
			fmt.Fprintln(&text, where, ok, impl.FormatPack(list, where), impl.PackHolds(list, where, processors, policy))
			fmt.Fprintln(&text, impl.PackValid(list, where, processors))
			group, ok := impl.GroupOf(list, where, processors-1)
			fmt.Fprintln(&text, group, ok)
		}
	}
	return text.String()
}

// TestTheSameCallAnswersTheSame asks again and again, one call after the other and many at the same time.
func TestTheSameCallAnswersTheSame(t *testing.T) {
	for _, list := range listsOfPacks(t) {
		want := allPacks(list)
		for range 8 {
			if text := allPacks(list); text != want {
				t.Fatalf("of %s, a later call is told\n%s, and not\n%s", told(list), text, want)
			}
		}
		texts := make([]string, 8)
		var asking sync.WaitGroup
		for i := range texts {
			asking.Go(func() { texts[i] = allPacks(list) })
		}
		asking.Wait()
		for _, text := range texts {
			if text != want {
				t.Fatalf("of %s, one of many calls at the same time is told\n%s, and not\n%s", told(list), text, want)
			}
		}
	}
}

// TestNothingGoesOnAfterACall checks that no goroutine of a call stays. One that has done all it does may take a moment to go.
func TestNothingGoesOnAfterACall(t *testing.T) {
	before := runtime.NumGoroutine()
	for _, list := range listsOfPacks(t) {
		allPacks(list)
	}
	for range 1000 {
		if runtime.NumGoroutine() <= before {
			return
		}
		time.Sleep(time.Millisecond)
	}
	t.Errorf("there were %d goroutines, and there are %d", before, runtime.NumGoroutine())
}
