package tests

import (
	"math"
	"slices"
	"testing"

	"loop.example/dualmodes/impl"
)

// sequencesOf returns all sequences of so many numbers from 0 on and below most, by the first number that differs: it counts with
// these numbers as digits.
func sequencesOf(length, most int) [][]int {
	total := 1
	for range length {
		total *= most
	}
	var sequences [][]int
	for n := range total {
		sequence := make([]int, length)
		for i := length - 1; i >= 0; i-- {
			sequence[i] = n % most
			n /= most
		}
		sequences = append(sequences, sequence)
	}
	return sequences
}

// ordersOf returns all orders of so many places, by the first number that differs.
func ordersOf(places int) [][]int {
	var orders [][]int
	for _, order := range sequencesOf(places, places) {
		if isOrder(order, places) {
			orders = append(orders, order)
		}
	}
	return orders
}

// isOrder reports whether numbers are so many places, each once.
func isOrder(order []int, places int) bool {
	for at := range places {
		if !slices.Contains(order, at) {
			return false
		}
	}
	return len(order) == places
}

// picked returns the tasks at some places, in the order of these.
func picked(list []impl.Task, places []int) []impl.Task {
	var tasks []impl.Task
	for _, at := range places {
		tasks = append(tasks, list[at])
	}
	return tasks
}

// wantHolds finds whether the task at a place of valid ones holds in both modes, apart from the program.
func wantHolds(list []impl.Task, at int) bool {
	if list[at].Critical {
		return wantSwitch(list, at) != none
	}
	return wantLow(list, at) != none
}

// wantLast finds whether a task of valid ones can be last.
func wantLast(list []impl.Task, at int) bool {
	if at < 0 || at >= len(list) {
		return false
	}
	var moved []impl.Task
	for i, x := range list {
		if i != at {
			moved = append(moved, x)
		}
	}
	return wantHolds(append(moved, list[at]), len(list)-1)
}

// wantOrders returns all orders in which valid tasks hold, by the first number that differs.
func wantOrders(list []impl.Task) [][]int {
	var holding [][]int
	for _, order := range ordersOf(len(list)) {
		tasks, holds := picked(list, order), true
		for at := range tasks {
			holds = holds && wantHolds(tasks, at)
		}
		if holds {
			holding = append(holding, order)
		}
	}
	return holding
}

// wantAssigned returns that one of some orders whose last number is the greatest, and of these the one whose number
// before it is, and so on. If tasks hold in these orders and in no others, AssignOrder has to find it, as a task that
// can be last is last in one of them.
func wantAssigned(orders [][]int) []int {
	return slices.MaxFunc(orders, func(a, b []int) int {
		for i := len(a) - 1; i >= 0; i-- {
			if a[i] != b[i] {
				return a[i] - b[i]
			}
		}
		return 0
	})
}

// checkOrder checks an order and whether there is one; want is nil if there is none.
func checkOrder(t *testing.T, name string, list []impl.Task, order []int, ok bool, want []int) {
	t.Helper()
	if ok != (want != nil) || !slices.Equal(order, want) {
		t.Errorf("%s(%s) = %v, %v, not %v", name, told(list), order, ok, want)
	}
}

// checkOrders checks all of what orders of valid tasks are told, and returns how many there are in which all hold.
func checkOrders(t *testing.T, list []impl.Task) int {
	t.Helper()
	for at := -1; at <= len(list); at++ {
		if ok := impl.CanBeLast(list, at); ok != wantLast(list, at) {
			t.Errorf("CanBeLast(%s, %d) = %v", told(list), at, ok)
		}
	}
	holding := wantOrders(list)
	var assigned, first []int
	if len(holding) > 0 {
		assigned, first = wantAssigned(holding), holding[0]
	}
	order, ok := impl.AssignOrder(list)
	checkOrder(t, "AssignOrder", list, order, ok, assigned)
	if tasks, put := impl.PutOrder(list, order); ok && (!put || !impl.HoldsBoth(tasks)) {
		t.Errorf("AssignOrder(%s) = %v, in which the tasks do not hold", told(list), order)
	}
	order, ok = impl.AnyOrder(list)
	checkOrder(t, "AnyOrder", list, order, ok, first)
	if n := impl.CountOrders(list); n != len(holding) {
		t.Errorf("CountOrders(%s) = %d, not %d", told(list), n, len(holding))
	}
	return len(holding)
}

func TestOrders(t *testing.T) {
	for _, c := range []struct {
		text            string
		assigned, first []int
		count           int
	}{
		// No tasks have one order, and so has one task, if it holds, as it always does alone.
		{"", []int{}, []int{}, 1},
		{"3 every 12", []int{0}, []int{0}, 1},
		{"20/20 every 20", []int{0}, []int{0}, 1},
		// The document's example, and the same with its tasks in order.
		{"3 every 12; 1 every 4 by 2", []int{1, 0}, []int{1, 0}, 1},
		{"1 every 4 by 2; 3 every 12", []int{0, 1}, []int{0, 1}, 1},
		// All orders hold, so that the last of the tasks gets the lowest priority, and so on.
		{"1 every 6; 1/2 every 6; 1 every 6", []int{0, 1, 2}, []int{0, 1, 2}, 6},
		{"1 every 20; 1 every 19; 1/2 every 18; 1 every 17; 1/2 every 16", []int{0, 1, 2, 3, 4}, []int{0, 1, 2, 3, 4}, 120},
		// Equal tasks stay in the order of their places, if they hold.
		{"1 every 5; 1 every 5; 1 every 5; 1 every 5; 1 every 5", []int{0, 1, 2, 3, 4}, []int{0, 1, 2, 3, 4}, 120},
		{"1/2 every 10; 1/2 every 10; 1/2 every 10; 1/2 every 10; 1/2 every 10", []int{0, 1, 2, 3, 4}, []int{0, 1, 2, 3, 4}, 120},
		{"3 every 12; 1 every 4 by 2; 1 every 4 by 2", []int{1, 2, 0}, []int{1, 2, 0}, 2},
		{"2 every 4; 2 every 4; 2 every 4", nil, nil, 0},
		// A task that has to go first, at each place.
		{"2 every 20 by 2; 1 every 20; 1 every 20", []int{0, 1, 2}, []int{0, 1, 2}, 2},
		{"1 every 20; 2 every 20 by 2; 1 every 20", []int{1, 0, 2}, []int{1, 0, 2}, 2},
		{"1 every 20; 1 every 20; 2/2 every 20 by 2", []int{2, 0, 1}, []int{2, 0, 1}, 2},
		{"1 every 20; 1 every 20; 1 every 20; 1 every 20; 2/3 every 20 by 3", []int{4, 0, 1, 2, 3}, []int{4, 0, 1, 2, 3}, 24},
		// A task that can only be last, at each place.
		{"5/8 every 20; 1 every 4 by 3; 1 every 5 by 3", []int{1, 2, 0}, []int{1, 2, 0}, 2},
		{"1 every 4 by 3; 5/8 every 20; 1 every 5 by 3", []int{0, 2, 1}, []int{0, 2, 1}, 2},
		{"1 every 4 by 3; 1 every 5 by 3; 5/8 every 20", []int{0, 1, 2}, []int{0, 1, 2}, 2},
		// Each of the tasks has one place only.
		{"4 every 20 by 10; 3 every 20 by 6; 2 every 20 by 3; 1 every 20 by 1", []int{3, 2, 1, 0}, []int{3, 2, 1, 0}, 1},
		{"2 every 20 by 3; 5/5 every 20 by 15; 3 every 20 by 6; 1 every 20 by 1; 4 every 20 by 10", []int{3, 0, 2, 4, 1}, []int{3, 0, 2, 4, 1}, 1},
		// The last that can be last is not last in the first order.
		{"4 every 20; 1 every 20; 1 every 20 by 3", []int{2, 0, 1}, []int{1, 2, 0}, 3},
		{"4 every 20; 1 every 20; 1 every 20; 1 every 20 by 3", []int{3, 0, 1, 2}, []int{1, 2, 3, 0}, 12},
		{"4 every 20; 1/2 every 20; 1 every 20 by 3; 1 every 20", []int{2, 0, 1, 3}, []int{1, 2, 0, 3}, 12},
		// The critical one has to go first, though it is due later.
		{"2 every 4; 2/5 every 10 by 6", []int{1, 0}, []int{1, 0}, 1},
		// They hold with low needs in an order, but in both modes only if the critical one is due later.
		{"1/4 every 5; 1/4 every 5", nil, nil, 0},
		{"2 every 4 by 3; 2/5 every 10 by 6", nil, nil, 0},
		{"2 every 4 by 3; 2/5 every 10 by 7", []int{0, 1}, []int{0, 1}, 1},
		// Too much for any order.
		{"3/4 every 5; 3 every 5", nil, nil, 0},
		{"1 every 1; 1 every 20", nil, nil, 0},
		{"1 every 20; 1 every 20 by 1; 1 every 20; 1 every 20 by 1; 1 every 20", nil, nil, 0},
		{"1 every 2 by 1; 1 every 3 by 1", nil, nil, 0},
		{"20 every 20; 20 every 20; 20 every 20; 20 every 20; 20 every 20", nil, nil, 0},
	} {
		list := tasksOf(t, c.text)
		order, ok := impl.AssignOrder(list)
		checkOrder(t, "AssignOrder", list, order, ok, c.assigned)
		order, ok = impl.AnyOrder(list)
		checkOrder(t, "AnyOrder", list, order, ok, c.first)
		if n := impl.CountOrders(list); n != c.count {
			t.Errorf("CountOrders(%s) = %d, not %d", told(list), n, c.count)
		}
		checkOrders(t, list)
	}
}

func TestPutOrderOfTheExample(t *testing.T) {
	list := tasksOf(t, "3 every 12; 1 every 4 by 2")
	order, _ := impl.AssignOrder(list)
	tasks, ok := impl.PutOrder(list, order)
	if s := impl.FormatSet(tasks); !ok || s != "1 every 4 by 2; 3 every 12" {
		t.Errorf("PutOrder(%s, %v) = %q, %v", told(list), order, s, ok)
	}
}

func TestCanBeLast(t *testing.T) {
	for _, c := range []struct {
		text string
		last []bool
	}{
		{"", nil},
		{"20 every 20", []bool{true}},
		{"1/20 every 20", []bool{true}},
		{"3 every 12; 1 every 4 by 2", []bool{true, false}},
		{"1 every 4 by 2; 3 every 12", []bool{false, true}},
		{"1 every 6; 1/2 every 6; 1 every 6", []bool{true, true, true}},
		{"1 every 5; 1 every 5; 1 every 5; 1 every 5; 1 every 5", []bool{true, true, true, true, true}},
		{"2 every 5; 1 every 5; 1 every 5; 1 every 5; 1 every 5", []bool{false, false, false, false, false}},
		{"5/8 every 20; 1 every 4 by 3; 1 every 5 by 3", []bool{true, false, false}},
		// A response that is just Due, and one that would be one greater.
		{"2 every 20 by 6; 4 every 20", []bool{true, true}},
		{"2 every 20 by 5; 4 every 20", []bool{false, true}},
		// One that is critical has to hold at the switch, and one that is not with low needs.
		{"2 every 4; 2/5 every 10 by 7", []bool{true, true}},
		{"2 every 4; 2/5 every 10 by 6", []bool{true, false}},
		{"1/4 every 4; 1/1 every 20 by 4", []bool{false, false}},
		{"1/4 every 4; 1 every 20 by 2", []bool{false, true}},
		// Whether the others hold does not matter.
		{"1 every 2 by 1; 1 every 3 by 1; 1 every 20", []bool{false, false, true}},
		{"1 every 20; 1 every 2 by 1; 1 every 3 by 1", []bool{true, false, false}},
	} {
		list := tasksOf(t, c.text)
		for at, want := range c.last {
			if ok := impl.CanBeLast(list, at); ok != want {
				t.Errorf("CanBeLast(%s, %d) = %v", told(list), at, ok)
			}
		}
		for _, at := range []int{-1, len(list), -2, -len(list) - 1, len(list) + 1, 5, 6, 1 << 32, -1 << 32, math.MaxInt, math.MinInt} {
			if ok := impl.CanBeLast(list, at); ok {
				t.Errorf("CanBeLast(%s, %d) is true", told(list), at)
			}
		}
		checkOrders(t, list)
	}
	// A task behind the end of the list is none of it.
	if list := someTasks(3)[:2]; impl.CanBeLast(list, 2) {
		t.Errorf("CanBeLast(%s, 2) is true", told(list))
	}
}

func TestCanBeLastWhateverTheOrderOfTheOthers(t *testing.T) {
	for _, text := range []string{
		"1 every 4; 2 every 9; 1/2 every 7; 2/4 every 20 by 12",
		"1 every 4 by 3; 5/8 every 20; 1 every 5 by 3",
		"2 every 20 by 3; 5/5 every 20 by 15; 3 every 20 by 6; 1 every 20 by 1; 4 every 20 by 10",
		"1/2 every 5; 1 every 3; 1/3 every 20; 1 every 9; 1/2 every 20 by 16",
		"1 every 10 by 9; 2/4 every 8; 1/1 every 12 by 9; 3 every 8; 1/20 every 20",
	} {
		list := tasksOf(t, text)
		for _, order := range ordersOf(len(list)) {
			tasks := picked(list, order)
			for at := range tasks {
				if ok := impl.CanBeLast(tasks, at); ok != wantLast(list, order[at]) {
					t.Errorf("CanBeLast(%s, %d) = %v", told(tasks), at, ok)
				}
			}
		}
	}
}

func TestOrdersOfSmallTasks(t *testing.T) {
	checkOrders(t, nil)
	checkOrders(t, []impl.Task{})
	for _, x := range allTasks() {
		checkOrders(t, []impl.Task{x})
	}
	pairs := smallTasks(6)
	for _, x := range pairs {
		for _, y := range pairs {
			checkOrders(t, []impl.Task{x, y})
		}
	}
	triples := smallTasks(3)
	for _, x := range triples {
		for _, y := range triples {
			for _, z := range triples {
				checkOrders(t, []impl.Task{x, y, z})
			}
		}
	}
}

func TestOrdersOfManyTasks(t *testing.T) {
	for _, kinds := range [][]impl.Task{
		{plain(1, 20, 20), plain(4, 20, 20), plain(1, 3, 20), critical(1, 2, 9, 10)},
		{plain(1, 3, 5), critical(1, 2, 8, 8), critical(2, 4, 17, 20), plain(3, 19, 19)},
		{plain(1, 4, 4), critical(1, 3, 12, 12), critical(2, 5, 16, 20), plain(2, 15, 18)},
	} {
		eachList(kinds, func(list []impl.Task) { checkOrders(t, list) })
	}
}

// TestOrdersOfLightTasks takes tasks with low needs that are small, so that there are lists with no order in which all
// hold, with one, with some and with all of them.
func TestOrdersOfLightTasks(t *testing.T) {
	var light []impl.Task
	for _, x := range allTasks() {
		if x.Low <= 3 && x.High <= 6 && x.Every >= 11 && x.Due >= 6 {
			light = append(light, x)
		}
	}
	seen := map[int]bool{}
	for i := range light {
		var list []impl.Task
		for k := range 5 {
			list = append(list, light[(i*7919+k*k*631+k*97)%len(light)])
		}
		seen[checkOrders(t, list)] = true
	}
	if !seen[0] || !seen[1] || !seen[120] || len(seen) < 20 {
		t.Errorf("the numbers of orders are %v", seen)
	}
}

// eachSequence calls f with all sequences of up to so many numbers from least to most.
func eachSequence(length, least, most int, f func([]int)) {
	var grow func(sequence []int)
	grow = func(sequence []int) {
		f(slices.Clone(sequence))
		if len(sequence) == length {
			return
		}
		for n := least; n <= most; n++ {
			grow(append(sequence, n))
		}
	}
	grow(nil)
}

// checkPut checks OrderValid and PutOrder of a list with numbers that may be an order.
func checkPut(t *testing.T, list []impl.Task, order []int, valid bool) {
	t.Helper()
	if ok := impl.OrderValid(list, order); ok != valid {
		t.Errorf("OrderValid(%s, %v) = %v", told(list), order, ok)
	}
	var want []impl.Task
	if valid {
		want = picked(list, order)
	}
	if tasks, ok := impl.PutOrder(list, order); ok != valid || !sameTasks(tasks, want) {
		t.Errorf("PutOrder(%s, %v) = %s, %v", told(list), order, told(tasks), ok)
	}
}

func TestPutOrderOfAllSequences(t *testing.T) {
	for length := range 6 {
		list, found := someTasks(length), 0
		eachSequence(length+1, -1, length, func(order []int) {
			valid := isOrder(order, length)
			if valid {
				found++
			}
			checkPut(t, list, order, valid)
		})
		if found != []int{1, 1, 2, 6, 24, 120}[length] {
			t.Errorf("there are %d orders of %d tasks", found, length)
		}
	}
	checkPut(t, nil, nil, true)
	checkPut(t, []impl.Task{}, []int{}, true)
}

func TestPutOrderOfNumbersThatAreNoPlaces(t *testing.T) {
	for length := range 6 {
		list := someTasks(length)
		for _, order := range ordersOf(length) {
			for i := range order {
				for _, n := range []int{-1, length, length + 1, -length, 5, 6, 64, 1 << 32, 1<<32 + order[i], order[i] - 1<<32, math.MaxInt, math.MinInt, math.MinInt + order[i]} {
					if n == order[i] {
						continue
					}
					changed := slices.Clone(order)
					changed[i] = n
					checkPut(t, list, changed, false)
				}
			}
			checkPut(t, list, append(slices.Clone(order), length), false)
			checkPut(t, list, append(slices.Clone(order), order...), length == 0)
		}
		checkPut(t, list, make([]int, 100000), false)
	}
	// Equal tasks have places of their own.
	list := slices.Repeat([]impl.Task{plain(1, 5, 5)}, 3)
	checkPut(t, list, []int{0, 0, 0}, false)
	checkPut(t, list, []int{2, 1, 0}, true)
	// Orders are valid though the tasks do not hold in them.
	checkPut(t, tasksOf(t, "20 every 20; 20 every 20"), []int{1, 0}, true)
}

func TestInvalidListsHaveNoOrders(t *testing.T) {
	for _, list := range invalidLists() {
		places := make([]int, len(list))
		for at := range places {
			places[at] = at
		}
		backwards := slices.Clone(places)
		slices.Reverse(backwards)
		for _, order := range [][]int{nil, places, backwards, places[:len(places)-1], {0}, {0, 1, 2, 3, 4}} {
			checkPut(t, list, order, false)
		}
		checkNoOrders(t, list)
	}
}

func checkNoOrders(t *testing.T, list []impl.Task) {
	t.Helper()
	for _, at := range []int{0, 1, 2, 3, 4, 5, 6, len(list) - 1, len(list), -1, math.MaxInt, math.MinInt} {
		if impl.CanBeLast(list, at) {
			t.Errorf("CanBeLast(%s, %d) is true", told(list), at)
		}
	}
	order, ok := impl.AssignOrder(list)
	checkOrder(t, "AssignOrder", list, order, ok, nil)
	order, ok = impl.AnyOrder(list)
	checkOrder(t, "AnyOrder", list, order, ok, nil)
	if n := impl.CountOrders(list); n != 0 {
		t.Errorf("CountOrders(%s) = %d", told(list), n)
	}
}

func TestTooManyTasksHaveNoOrders(t *testing.T) {
	// They would hold in all orders if there were not too many.
	kind := critical(1, 1, 20, 20)
	if n := checkOrders(t, slices.Repeat([]impl.Task{kind}, 5)); n != 120 {
		t.Errorf("five tasks hold in %d orders", n)
	}
	for length := 6; length <= 8; length++ {
		list := slices.Repeat([]impl.Task{kind}, length)
		checkNoOrders(t, list)
		checkPut(t, list, ordersOf(5)[0], false)
		checkPut(t, list, []int{0, 1, 2, 3, 4, 5, 6, 7}[:length], false)
	}
}

// listsOfOrders are lists with some orders, with one, with none, and ones that are not valid.
func listsOfOrders(t *testing.T) [][]impl.Task {
	lists := [][]impl.Task{
		tasksOf(t, "3 every 12; 1 every 4 by 2"),
		tasksOf(t, "4 every 20; 1 every 20; 1 every 20 by 3"),
		tasksOf(t, "1 every 6; 1/2 every 6; 1 every 6"),
		tasksOf(t, "3/4 every 5; 3 every 5"),
		tasksOf(t, "1 every 5; 1 every 5; 1 every 5; 1 every 5; 1 every 5"),
		tasksOf(t, "2 every 20 by 3; 5/5 every 20 by 15; 3 every 20 by 6; 1 every 20 by 1; 4 every 20 by 10"),
		{plain(1, 4, 4), {}, critical(1, 2, 8, 8)},
	}
	for length := range 8 {
		lists = append(lists, someTasks(length), slices.Repeat([]impl.Task{critical(1, 2, 15, 17)}, length))
	}
	return lists
}

func TestFunctionsOfOrdersKeepTheirTasks(t *testing.T) {
	for _, list := range listsOfOrders(t) {
		for at := -1; at <= len(list); at++ {
			checkUnchanged(t, "CanBeLast", list, func(list []impl.Task) { impl.CanBeLast(list, at) })
		}
		checkUnchanged(t, "AssignOrder", list, func(list []impl.Task) { impl.AssignOrder(list) })
		checkUnchanged(t, "AnyOrder", list, func(list []impl.Task) { impl.AnyOrder(list) })
		checkUnchanged(t, "CountOrders", list, func(list []impl.Task) { impl.CountOrders(list) })
		for _, order := range [][]int{nil, {0}, {0, 0}, {1, 0}, {0, 1, 2}, {2, 1, 0}, {4, 0, 3, 1, 2}} {
			checkUnchanged(t, "OrderValid", list, func(list []impl.Task) { impl.OrderValid(list, order) })
			checkApart(t, "PutOrder", list, func(list []impl.Task) []impl.Task {
				tasks, _ := impl.PutOrder(list, order)
				return tasks
			})
		}
	}
}

func TestFunctionsOfOrdersKeepTheirOrder(t *testing.T) {
	list := someTasks(4)
	for _, order := range [][]int{{}, {0, 1, 2, 3}, {3, 2, 1, 0}, {2, 0, 3, 1}, {0, 0, 1, 2}, {3, 2, 1}, {0, 1, 2, 3, 4}, {-1, 0, 1, 2}} {
		memory := slices.Concat([]int{-7}, order, []int{-7, -7, -7, -7, -7, -7})
		before := slices.Clone(memory)
		argument := memory[1 : 1+len(order)]
		impl.OrderValid(list, argument)
		impl.PutOrder(list, argument)
		if !slices.Equal(memory, before) {
			t.Errorf("an order that was %v is %v", before, memory)
		}
	}
}

// TestOrdersShareNothing overwrites orders, and their unused capacity.
func TestOrdersShareNothing(t *testing.T) {
	check := func(name string, list []impl.Task, f func([]impl.Task) ([]int, bool)) {
		first, _ := f(list)
		want := slices.Clone(first)
		second, _ := f(list)
		second = second[:cap(second)]
		for i := range second {
			second[i] = -7
		}
		if !slices.Equal(first, want) {
			t.Errorf("%s(%s): two results share memory", name, told(list))
		}
		if again, _ := f(list); !slices.Equal(again, want) {
			t.Errorf("%s(%s) = %v after a result was overwritten, not %v", name, told(list), again, want)
		}
	}
	for _, list := range listsOfOrders(t) {
		check("AssignOrder", list, impl.AssignOrder)
		check("AnyOrder", list, impl.AnyOrder)
	}
}
