package tests

import (
	"fmt"
	"math"
	"math/big"
	"slices"
	"strings"
	"testing"

	"loop.example/dualmodes/impl"
)

// execution is the machine as the document tells it, apart from the program: what a tick brings about at the next one is kept
// until then, and deadlines are rational numbers.
type execution struct {
	list   []impl.Task
	jobs   []impl.Job
	policy int
	dues   [2][]*big.Rat // after how many ticks each task is due in the low mode, and in the high one
	left   []bool
	done   []int
	high   bool
	ending int  // the job that ends at the next tick, or -1
	rising bool // whether the mode becomes high at the next tick
	run    impl.Run
}

// wantRun finds the run of jobs of valid tasks, and whether there is one.
func wantRun(list []impl.Task, jobs []impl.Job, policy, ticks int) (impl.Run, bool) {
	if !wantJobs(list, jobs) || !between(0, policy, 1) || !between(0, ticks, 200) || policy == 1 && wantFactor(list) == nil {
		return impl.Run{}, false
	}
	e := &execution{list: list, jobs: jobs, policy: policy, left: make([]bool, len(jobs)), done: make([]int, len(jobs)), ending: -1}
	e.run.Ended = make([]int, len(jobs))
	for at := range jobs {
		e.run.Ended[at] = -1
	}
	for at, x := range list {
		e.dues[0] = append(e.dues[0], wantDue(list, at))
		e.dues[1] = append(e.dues[1], big.NewRat(int64(x.Due), 1))
	}
	for tick := range ticks {
		e.bring(tick)
		e.tick(tick)
	}
	e.bring(ticks)
	e.run.High = e.high
	return e.run, true
}

// bring does what the tick before brings about.
func (e *execution) bring(tick int) {
	if e.ending >= 0 {
		e.run.Ended[e.ending] = tick
		e.left[e.ending] = false
		e.ending = -1
	}
	if e.rising {
		e.rising = false
		e.high = true
		e.run.Switches = append(e.run.Switches, tick)
		for at, j := range e.jobs {
			if e.left[at] && !e.list[j.Task].Critical {
				e.left[at] = false
				e.run.Ended[at] = -2
			}
		}
	}
}

func (e *execution) tick(tick int) {
	if !slices.Contains(e.left, true) {
		e.high = false
	}
	running := -1
	for at, j := range e.jobs {
		switch {
		case j.At == tick && e.high && !e.list[j.Task].Critical:
			e.run.Ended[at] = -2
		case j.At == tick:
			e.left[at] = true
		}
		if e.left[at] && (running < 0 || e.goesFirst(j, e.jobs[running])) {
			running = at
		}
	}
	if running < 0 {
		e.run.Trace = append(e.run.Trace, -1)
		return
	}
	j := e.jobs[running]
	e.run.Trace = append(e.run.Trace, j.Task)
	e.done[running]++
	if e.done[running] == j.Need {
		e.ending = running
	} else if !e.high && e.list[j.Task].Critical && e.done[running] == e.list[j.Task].Low {
		e.rising = true
	}
}

// goesFirst finds whether a job runs before another one, both of which are left.
func (e *execution) goesFirst(a, b impl.Job) bool {
	if e.policy == 1 {
		if order := e.due(a).Cmp(e.due(b)); order != 0 {
			return order < 0
		}
	}
	if a.Task != b.Task {
		return a.Task < b.Task
	}
	return a.At < b.At
}

func (e *execution) due(j impl.Job) *big.Rat {
	mode := 0
	if e.high {
		mode = 1
	}
	return plus(big.NewRat(int64(j.At), 1), e.dues[mode][j.Task])
}

func sameRuns(a, b impl.Run) bool {
	return slices.Equal(a.Ended, b.Ended) && slices.Equal(a.Trace, b.Trace) && slices.Equal(a.Switches, b.Switches) && a.High == b.High
}

// checkRun checks a run of jobs of valid tasks, and what is told of it.
func checkRun(t *testing.T, list []impl.Task, jobs []impl.Job, policy, ticks int) impl.Run {
	t.Helper()
	want, valid := wantRun(list, jobs, policy, ticks)
	r, ok := impl.RunJobs(list, jobs, policy, ticks)
	if ok != valid || !sameRuns(r, want) {
		t.Errorf("RunJobs(%s, %s, %d, %d) = %v, %v, not %v, %v", told(list), toldJobs(jobs), policy, ticks, r, ok, want, valid)
	}
	if !impl.RunSame(r, want) {
		t.Errorf("RunSame(%v, %v) is false", r, want)
	}
	checkTold(t, list, jobs, r)
	return r
}

// checkTold checks what is told of any run of jobs of valid tasks.
func checkTold(t *testing.T, list []impl.Task, jobs []impl.Job, r impl.Run) {
	t.Helper()
	if s, want := impl.FormatTrace(r), wantTrace(r.Trace); s != want {
		t.Errorf("FormatTrace(%v) = %q, not %q", r, s, want)
	}
	if misses, want := impl.MissesOf(list, jobs, r), wantMisses(list, jobs, r); !slices.Equal(misses, want) {
		t.Errorf("MissesOf(%s, %s, %v) = %v, not %v", told(list), toldJobs(jobs), r, misses, want)
	}
	var dropped []int
	for at, ended := range r.Ended {
		if ended == -2 {
			dropped = append(dropped, at)
		}
	}
	if got := impl.DroppedOf(r); !slices.Equal(got, dropped) {
		t.Errorf("DroppedOf(%v) = %v, not %v", r, got, dropped)
	}
	for task := -2; task <= 6; task++ {
		if n, want := impl.LongestOf(jobs, r, task), wantLongest(jobs, r, task); n != want {
			t.Errorf("LongestOf(%s, %v, %d) = %d, not %d", toldJobs(jobs), r, task, n, want)
		}
		ran := 0
		for _, x := range r.Trace {
			if x == task {
				ran++
			}
		}
		if n := impl.RanOf(r, task); n != ran {
			t.Errorf("RanOf(%v, %d) = %d, not %d", r, task, n, ran)
		}
		if n := impl.IdleOf(r); task == -1 && n != ran {
			t.Errorf("IdleOf(%v) = %d, not %d", r, n, ran)
		}
	}
}

// wantTrace writes a trace, apart from the program.
func wantTrace(trace []int) string {
	var b strings.Builder
	for _, task := range trace {
		i := slices.Index([]int{-1, 0, 1, 2, 3, 4}, task)
		if i < 0 || len(trace) > 200 {
			return ""
		}
		b.WriteString(".01234"[i : i+1])
	}
	return b.String()
}

func wantMisses(list []impl.Task, jobs []impl.Job, r impl.Run) []int {
	var misses []int
	if !wantJobs(list, jobs) || len(jobs) != len(r.Ended) {
		return nil
	}
	for at, j := range jobs {
		due, ended := j.At+list[j.Task].Due, r.Ended[at]
		if ended > due || ended == -1 && len(r.Trace) >= due {
			misses = append(misses, at)
		}
	}
	return misses
}

func wantLongest(jobs []impl.Job, r impl.Run, task int) int {
	responses := []int{0}
	for at, j := range jobs {
		if len(jobs) == len(r.Ended) && j.Task == task && j.At >= 0 && r.Ended[at] >= 0 {
			responses = append(responses, r.Ended[at]-j.At)
		}
	}
	return slices.Max(responses)
}

// numbers writes numbers with a space between.
func numbers(list []int) string { return strings.Trim(fmt.Sprint(list), "[]") }

// outcome is what jobs with a text are told, of tasks with a text: for so many ticks, the trace, when each job ended, and when
// the mode became high; and which jobs are late, and which are dropped.
type outcome struct {
	tasks, jobs            string
	policy, ticks          int
	trace, ended, switches string
	high                   bool
	late, dropped          string
}

func checkOutcome(t *testing.T, c outcome) {
	t.Helper()
	list, jobs := tasksOf(t, c.tasks), jobsOf(t, c.jobs)
	r, ok := impl.RunJobs(list, jobs, c.policy, c.ticks)
	if !ok {
		t.Errorf("RunJobs(%q, %q, %d, %d) is false", c.tasks, c.jobs, c.policy, c.ticks)
	}
	got := outcome{c.tasks, c.jobs, c.policy, c.ticks, impl.FormatTrace(r), numbers(r.Ended), numbers(r.Switches), r.High,
		numbers(impl.MissesOf(list, jobs, r)), numbers(impl.DroppedOf(r))}
	if got != c {
		t.Errorf("the outcome is\n%+v, not\n%+v", got, c)
	}
	checkRun(t, list, jobs, c.policy, c.ticks)
}

func TestConstantsOfTheMachine(t *testing.T) {
	if got := []int{impl.ByPlace, impl.ByDue, impl.NotEnded, impl.Dropped, impl.NobodyRan}; !slices.Equal(got, []int{0, 1, -1, -2, -1}) {
		t.Errorf("the constants are %v", got)
	}
}

func TestRunOfTheExample(t *testing.T) {
	tasks, jobs := "1 every 4; 2/3 every 6; 1 every 6", "0@0:1 1@0:3 2@0:1"
	for _, c := range []outcome{
		{tasks, jobs, 0, 4, "0111", "1 4 -2", "3", true, "", "2"},
		// Fewer ticks, down to none, and more.
		{tasks, jobs, 0, 3, "011", "1 -1 -2", "3", true, "", "2"},
		{tasks, jobs, 0, 2, "01", "1 -1 -1", "", false, "", ""},
		{tasks, jobs, 0, 1, "0", "1 -1 -1", "", false, "", ""},
		{tasks, jobs, 0, 0, "", "-1 -1 -1", "", false, "", ""},
		{tasks, jobs, 0, 5, "0111.", "1 4 -2", "3", false, "", "2"},
		{tasks, jobs, 0, 7, "0111...", "1 4 -2", "3", false, "", "2"},
	} {
		checkOutcome(t, c)
	}
}

func TestRunsOfNoJobs(t *testing.T) {
	for _, c := range []outcome{
		{"", "", 0, 0, "", "", "", false, "", ""},
		{"", "", 1, 0, "", "", "", false, "", ""},
		{"", "", 0, 3, "...", "", "", false, "", ""},
		{"", "", 1, 200, strings.Repeat(".", 200), "", "", false, "", ""},
		{"1 every 4; 2/3 every 6", "", 0, 5, ".....", "", "", false, "", ""},
		{"1 every 4; 2/3 every 6", "", 1, 5, ".....", "", "", false, "", ""},
		{"1 every 4; 2/3 every 6", "0@3:1 1@3:3", 0, 0, "", "-1 -1", "", false, "", ""},
		{"1 every 4; 2/3 every 6", "0@3:1 1@3:3", 1, 3, "...", "-1 -1", "", false, "", ""},
	} {
		checkOutcome(t, c)
	}
}

// TestRunsAroundASwitch takes jobs that need as much as their low need, less and more, and ones that come around the tick at
// which the mode becomes high.
func TestRunsAroundASwitch(t *testing.T) {
	two, three := "1/2 every 4; 1 every 4", "2/4 every 9; 1/2 every 8; 1 every 8"
	for _, c := range []outcome{
		{two, "0@0:1 1@0:1", 0, 3, "01.", "1 2", "", false, "", ""},
		{two, "0@0:2 1@0:1", 0, 3, "00.", "2 -2", "1", false, "", "1"},
		{"3/9 every 9; 1 every 9", "0@0:2 1@0:1", 0, 4, "001.", "2 3", "", false, "", ""},
		{"3/9 every 9; 1 every 9", "0@0:3 1@0:1", 0, 5, "0001.", "3 4", "", false, "", ""},
		{"3/9 every 9; 1 every 9", "0@0:4 1@0:1", 0, 6, "0000..", "4 -2", "3", false, "", "1"},
		{"3/9 every 9; 1 every 9", "0@0:9 1@0:1", 0, 4, "0000", "-1 -2", "3", true, "", "1"},
		// Tasks whose needs do not differ, and ones that are not critical, make no switch.
		{"2/2 every 4; 1 every 4", "0@0:2 1@0:1", 0, 4, "001.", "2 3", "", false, "", ""},
		{"2 every 4; 1 every 4", "0@0:2 1@0:1", 0, 4, "001.", "2 3", "", false, "", ""},
		{"2 every 4; 1 every 4", "0@0:1 1@0:1", 0, 4, "01..", "1 2", "", false, "", ""},
		// Jobs that come a tick before the switch, at its tick and behind it, of a critical task and of one that is not.
		{three, "0@0:4 1@1:1 2@1:1", 0, 6, "00001.", "4 5 -2", "2", false, "", "2"},
		{three, "0@0:4 1@2:1 2@2:1", 0, 6, "00001.", "4 5 -2", "2", false, "", "2"},
		{three, "0@0:4 1@3:1 2@3:1", 0, 6, "00001.", "4 5 -2", "2", false, "", "2"},
		{three, "0@0:4 1@4:1 2@4:1", 0, 7, "000012.", "4 5 6", "2", false, "", ""},
		{three, "0@0:4 2@2:1", 0, 2, "00", "-1 -1", "2", true, "", ""},
		{three, "0@0:4 2@2:1", 0, 3, "000", "-1 -2", "2", true, "", "1"},
		// In the high mode, a job makes no second switch, whether it came before or comes then.
		{three, "0@0:4 1@0:2", 0, 7, "000011.", "4 6", "2", false, "", ""},
		{three, "0@0:4 1@2:2", 0, 7, "000011.", "4 6", "2", false, "", ""},
		{three, "1@0:1 0@1:4 1@8:2", 0, 11, "10000...11.", "1 5 10", "3 9", false, "", ""},
		// A critical job of a lesser place goes first, and the one that made the switch goes on behind it.
		{"1/1 every 9; 2/4 every 9; 1 every 9", "1@0:4 0@2:1 2@2:1", 0, 6, "11011.", "5 3 -2", "2", false, "", "2"},
		// A job with as many ticks done as its low need that waits made the switch before it waits.
		{"1/1 every 9; 2/4 every 9; 1 every 9", "1@0:3 2@0:1 0@1:1", 0, 5, "1011.", "4 -2 2", "3", false, "", "1"},
	} {
		checkOutcome(t, c)
	}
}

// TestTheWayBackToTheLowMode takes jobs that come when no job is left in the high mode, a tick before and behind.
func TestTheWayBackToTheLowMode(t *testing.T) {
	two, three := "1/2 every 4; 1 every 4", "1/2 every 4; 1/1 every 4; 1 every 4"
	for _, c := range []outcome{
		{two, "0@0:2 1@1:1", 0, 3, "00.", "2 -2", "1", false, "", "1"},
		{two, "0@0:2 1@2:1", 0, 3, "001", "2 3", "1", false, "", ""},
		{two, "0@0:2 1@3:1", 0, 4, "00.1", "2 4", "1", false, "", ""},
		// The mode stays high after the last tick, and while a job is left.
		{two, "0@0:2", 0, 2, "00", "2", "1", true, "", ""},
		{two, "0@0:2", 0, 3, "00.", "2", "1", false, "", ""},
		{three, "0@0:2 1@0:1 2@2:1", 0, 4, "001.", "2 3 -2", "1", false, "", "2"},
		{three, "0@0:2 1@1:1 2@2:1", 0, 4, "001.", "2 3 -2", "1", false, "", "2"},
		{three, "0@0:2 1@2:1 2@2:1", 0, 4, "0012", "2 3 4", "1", false, "", ""},
		{three, "0@0:2 1@0:1 2@3:1", 0, 4, "0012", "2 3 4", "1", false, "", ""},
		// Two switches in a run, at once and after some ticks, and what is dropped by each.
		{two, "0@0:2 1@2:1 0@4:2 1@6:1", 0, 7, "001.001", "2 3 6 7", "1 5", false, "", ""},
		{two, "0@0:2 1@0:1 0@4:2 1@4:1", 0, 7, "00..00.", "2 -2 6 -2", "1 5", false, "", "1 3"},
		{two, "0@0:2 1@0:1 0@4:1 1@4:1", 0, 7, "00..01.", "2 -2 5 6", "1", false, "", "1"},
		{"1/2 every 2; 1 every 4", "0@0:2 1@1:1 0@2:2 0@4:2 1@5:1", 0, 7, "000000.", "2 -2 4 6 -2", "1 3 5", false, "", "1 4"},
		{"1/2 every 2; 1/2 every 4; 1 every 6", "0@0:2 1@0:2 0@2:2 2@3:1 0@4:2", 0, 9, "00000011.", "2 8 4 -2 6", "1", false, "1", "3"},
	} {
		checkOutcome(t, c)
	}
}

// TestTheLastTick takes runs that stop around an end, a switch, and the coming of a job.
func TestTheLastTick(t *testing.T) {
	two := "2/4 every 6; 1 every 6"
	for _, c := range []outcome{
		{two, "0@0:2 1@0:1", 0, 1, "0", "-1 -1", "", false, "", ""},
		{two, "0@0:2 1@0:1", 0, 2, "00", "2 -1", "", false, "", ""},
		{two, "0@0:2 1@0:1", 0, 3, "001", "2 3", "", false, "", ""},
		{two, "0@0:3 1@0:1", 0, 1, "0", "-1 -1", "", false, "", ""},
		{two, "0@0:3 1@0:1", 0, 2, "00", "-1 -2", "2", true, "", "1"},
		{two, "0@0:3 1@0:1", 0, 3, "000", "3 -2", "2", true, "", "1"},
		{two, "0@0:3 1@0:1", 0, 4, "000.", "3 -2", "2", false, "", "1"},
		// What comes after the last tick did not come, even if what there is of its task is dropped.
		{two, "0@0:3 1@2:1", 0, 2, "00", "-1 -1", "2", true, "", ""},
		{two, "0@0:3 1@2:1", 0, 3, "000", "3 -2", "2", true, "", "1"},
		{two, "0@0:3 1@0:1 1@6:1", 0, 6, "000...", "3 -2 -1", "2", false, "", "1"},
		{two, "0@0:1 0@6:1 0@200:1", 0, 6, "0.....", "1 -1 -1", "", false, "", ""},
		{two, "0@0:1 0@6:1 0@200:1", 0, 7, "0.....0", "1 7 -1", "", false, "", ""},
		// MaxTicks ticks.
		{two, "0@199:2 1@200:1", 0, 200, strings.Repeat(".", 199) + "0", "-1 -1", "", false, "", ""},
		{two, "0@199:1 1@200:1", 0, 200, strings.Repeat(".", 199) + "0", "200 -1", "", false, "", ""},
		{two, "1@197:1 0@198:3", 0, 200, strings.Repeat(".", 197) + "100", "198 -1", "200", true, "", ""},
		{two, "0@198:3 1@198:1", 0, 200, strings.Repeat(".", 198) + "00", "-1 -2", "200", true, "", "1"},
		{two, "0@194:3 1@194:1", 1, 200, strings.Repeat(".", 194) + "000...", "197 -2", "196", false, "", "1"},
	} {
		checkOutcome(t, c)
	}
}

// TestJobsThatAreLate takes jobs that end, or are left, around the tick at which they are due.
func TestJobsThatAreLate(t *testing.T) {
	early, full := "3 every 9; 2 every 9 by 4", "3 every 5; 3 every 6"
	for _, c := range []outcome{
		{"3 every 9; 2 every 9 by 5", "0@0:3 1@0:2", 0, 7, "00011..", "3 5", "", false, "", ""},
		{early, "0@0:3 1@0:2", 0, 7, "00011..", "3 5", "", false, "1", ""},
		// One that is left is late from the last tick on at which it may end.
		{early, "0@0:3 1@0:2", 0, 3, "000", "3 -1", "", false, "", ""},
		{early, "0@0:3 1@0:2", 0, 4, "0001", "3 -1", "", false, "1", ""},
		{early, "0@0:3 1@0:2", 0, 5, "00011", "3 5", "", false, "1", ""},
		{early, "0@0:3 1@0:1", 0, 4, "0001", "3 4", "", false, "", ""},
		{early, "0@0:3 1@1:2", 0, 5, "00011", "3 5", "", false, "", ""},
		// One that did not come is due after the last tick; one that was dropped is never late.
		{early, "0@3:3 1@3:2", 0, 3, "...", "-1 -1", "", false, "", ""},
		{"1/8 every 8; 1 every 2", "0@0:8 1@0:1 1@2:1", 0, 9, "00000000.", "8 -2 -2", "1", false, "", "1 2"},
		// Two jobs of a task are left together, and the one that came first runs first.
		{full, "0@0:3 1@0:3 0@5:3 1@6:3", 0, 8, "00011000", "3 -1 8 -1", "", false, "1", ""},
		{full, "0@0:3 1@0:3 0@5:3 1@6:3", 0, 9, "000110001", "3 9 8 -1", "", false, "1", ""},
		{full, "0@0:3 1@0:3 0@5:3 1@6:3", 0, 12, "000110001111", "3 9 8 12", "", false, "1", ""},
		{full, "0@0:3 1@0:3 0@5:3 1@6:1", 0, 10, "0001100011", "3 9 8 10", "", false, "1", ""},
		{full, "0@0:3 1@0:3 0@5:3 1@6:3 0@10:3", 0, 15, "000110001100011", "3 9 8 15 13", "", false, "1 3", ""},
		{"4/9 every 9; 3/5 every 5", "0@0:9 1@0:5 1@5:5", 0, 19, "0000000001111111111", "9 14 19", "4", true, "1 2", ""},
		// A switch drops two jobs of a task.
		{"4/9 every 9; 5 every 5", "0@0:4 1@0:5 1@5:5 0@9:9", 0, 18, "000011111000000000", "4 9 -2 18", "13", true, "1", "2"},
	} {
		checkOutcome(t, c)
	}
}

func TestRunsByDeadlines(t *testing.T) {
	two, three := "5 every 10; 2/6 every 10", "2 every 20; 7/13 every 20; 1/3 every 10"
	for _, c := range []outcome{
		// The document's tasks, by both policies: the critical job is due at the tick 4 in the low mode.
		{two, "0@0:5 1@0:2", 1, 8, "1100000.", "7 2", "", false, "", ""},
		{two, "0@0:5 1@0:2", 0, 8, "0000011.", "5 7", "", false, "", ""},
		{two, "0@0:5 1@0:6", 1, 8, "111111..", "-2 6", "2", false, "", "0"},
		{two, "0@0:5 1@0:6", 0, 12, "00000111111.", "5 11", "7", false, "1", ""},
		{two, "0@0:5 1@5:2", 1, 8, "0000011.", "5 7", "", false, "", ""},
		{two, "0@0:5 1@4:2", 1, 8, "0000110.", "7 6", "", false, "", ""},
		// If the factor is 1, they are due as they are told.
		{"4 every 10; 2/6 every 10", "0@0:4 1@0:2", 1, 7, "000011.", "4 6", "", false, "", ""},
		{"4 every 10; 2/5 every 9", "0@0:4 1@1:2", 1, 7, "000011.", "4 6", "", false, "", ""},
		{"4 every 10; 2/5 every 9", "0@0:4 1@0:2", 1, 7, "110000.", "6 2", "", false, "", ""},
		// With the same deadline, the least place goes first, whichever came first, and if one of them is a virtual one.
		{"1 every 4; 3 every 6", "1@0:3 0@2:1", 1, 5, "1101.", "4 3", "", false, "", ""},
		{"3 every 6; 1 every 4", "0@0:3 1@2:1", 1, 5, "0001.", "3 4", "", false, "", ""},
		{"2 every 4; 2 every 4", "0@0:2 1@0:2", 1, 5, "0011.", "2 4", "", false, "", ""},
		{"1 every 5; 8/18 every 20", "1@0:8 0@5:1", 1, 10, "111110111.", "9 6", "", false, "", ""},
		{"8/18 every 20; 1 every 5", "0@0:8 1@5:1", 1, 10, "000000001.", "8 9", "", false, "", ""},
		{"8/18 every 20; 1 every 5", "0@0:8 1@4:1", 1, 10, "000010000.", "9 5", "", false, "", ""},
		{three, "1@0:7 2@5:1", 1, 9, "11111112.", "7 8", "", false, "", ""},
		{"1/3 every 10; 7/13 every 20; 2 every 20", "1@0:7 0@5:1", 1, 9, "11111011.", "8 6", "", false, "", ""},
		// Deadlines that are no whole numbers: 59/4 and 521/36; 443/45 and 10; 35/3 and 12; 595/48 and 193/16.
		{"2/4 every 9; 3 every 7; 1/1 every 7", "1@1:3 0@9:2 2@10:1", 1, 13, ".111.....020.", "4 12 11", "", false, "", ""},
		{"3 every 11; 1 every 7; 4/10 every 13", "1@3:1 2@3:4 0@10:3", 1, 9, "...22221.", "8 7 -1", "", false, "", ""},
		{"2 every 5; 4/8 every 13", "1@5:4 0@7:2", 1, 12, ".....111100.", "9 11", "", false, "", ""},
		{"3 every 11; 1/4 every 13; 2/7 every 12", "0@3:3 1@8:1 2@8:2", 1, 12, "...000..221.", "6 11 10", "", false, "", ""},
	} {
		checkOutcome(t, c)
	}
}

// TestDeadlinesChangeWithTheMode takes jobs that go in another order when the mode changes.
func TestDeadlinesChangeWithTheMode(t *testing.T) {
	// The factor is 1/2: in the low mode, the first job is due at the tick 10, before the second one, which is due at 11; in
	// the high mode, it is due at 20, behind the second one, which is due at 16.
	three, never := "2 every 20; 7/13 every 20; 1/3 every 10", "1/9 every 10; 1/9 every 10"
	for _, c := range []outcome{
		{three, "1@0:13 2@6:3", 1, 17, "1111111222111111.", "16 10", "7", false, "", ""},
		{three, "1@0:13 2@6:3", 0, 17, "1111111111111222.", "13 16", "7", false, "", ""},
		{three, "1@0:7 2@6:1", 1, 9, "11111112.", "7 8", "", false, "", ""},
		{three, "1@0:13 0@3:2 2@6:3", 1, 17, "1111111222111111.", "16 -2 10", "7", false, "", "1"},
		// Behind the switch, deadlines are virtual ones again.
		{three, "1@0:13 2@6:3 1@20:7 2@26:1", 1, 29, "1111111222111111....11111112.", "16 10 27 28", "7", false, "", ""},
		{three, "1@0:13 2@6:3 1@20:13 2@26:3", 1, 37, "1111111222111111....1111111222111111.", "16 10 36 30", "7 27", false, "", ""},
		// Two jobs of a task are left together, of tasks for which there is a factor though they do not hold.
		{never, "0@0:9 1@0:9 0@10:9 1@10:9", 1, 37, "000000000111111111000000000111111111.", "9 18 27 36", "1", false, "1 2 3", ""},
		{never, "0@0:9 1@0:9 0@10:9 1@10:9", 0, 37, "000000000100000000011111111111111111.", "9 27 19 36", "1", false, "1 3", ""},
		{never, "0@0:9 1@0:9 0@10:1 1@10:1", 1, 21, "00000000011111111101.", "9 18 19 20", "1", false, "1", ""},
	} {
		checkOutcome(t, c)
	}
}

// dice give numbers that are the same ones whenever the tests run.
type dice struct{ state uint64 }

// below returns a number from 0 on and below n.
func (d *dice) below(n int) int {
	d.state = d.state*6364136223846793005 + 1442695040888963407
	return int(d.state>>33) % n
}

// task returns a valid task that comes again after least ticks or more, and needs share parts of a hundred of them at most.
func (d *dice) task(least, share int, implicit bool) impl.Task {
	every := least + d.below(21-least)
	due := every
	if !implicit && d.below(2) == 0 {
		due = 1 + d.below(every)
	}
	high := 1 + d.below(max(1, due*share/100))
	if d.below(2) == 0 {
		return plain(high, due, every)
	}
	return critical(1+d.below(high), high, due, every)
}

// tasks returns up to five tasks as above.
func (d *dice) tasks(least, share int, implicit bool) []impl.Task {
	var list []impl.Task
	for range 1 + d.below(5) {
		list = append(list, d.task(least, share, implicit))
	}
	return list
}

// need returns a need of a job, mostly one around the low need of the task, or its high one.
func (d *dice) need(x impl.Task) int {
	switch d.below(5) {
	case 0, 1:
		return x.Low
	case 2:
		return min(x.Low+1, x.High)
	case 3:
		return x.High
	}
	return 1 + d.below(x.High)
}

// jobs returns jobs of tasks, which come up to a tick, and more or less often.
func (d *dice) jobs(list []impl.Task, until int) []impl.Job {
	var jobs []impl.Job
	for task, x := range list {
		wait := 1 + 6*d.below(3)
		for at := d.below(wait); at <= until; at += x.Every + d.below(wait) {
			jobs = append(jobs, job(task, at, d.need(x)))
		}
	}
	slices.SortFunc(jobs, func(a, b impl.Job) int {
		if goesFirst(a, b) {
			return -1
		}
		return 1
	})
	return jobs[:min(len(jobs), 60)]
}

// seen counts what happens in runs, so that tests of many of them miss nothing.
type seen map[string]int

func (s seen) add(name string, isSo bool) {
	if isSo {
		s[name]++
	}
}

func (s seen) run(list []impl.Task, jobs []impl.Job, policy, ticks int, r impl.Run) {
	name := fmt.Sprint("policy ", policy, ": ")
	s.add(name+"a switch", len(r.Switches) == 1)
	s.add(name+"more switches", len(r.Switches) > 1)
	s.add(name+"a switch after the last tick", len(r.Switches) > 0 && slices.Max(r.Switches) == ticks)
	s.add(name+"an end after the last tick", slices.Contains(r.Ended, ticks))
	s.add(name+"the mode is high", r.High)
	s.add(name+"dropped jobs", slices.Contains(r.Ended, -2))
	s.add(name+"late jobs", len(wantMisses(list, jobs, r)) > 0)
	s.add(name+"nothing late", len(wantMisses(list, jobs, r)) == 0)
	s.add(name+"jobs that are left", slices.Contains(r.Ended, -1))
	s.add(name+"idle ticks", slices.Contains(r.Trace, -1))
}

// check checks that each of so many things was seen often enough.
func (s seen) check(t *testing.T, things, least int) {
	t.Helper()
	if len(s) != things {
		t.Errorf("only %d things are seen: %v", len(s), s)
	}
	for name, n := range s {
		if n < least {
			t.Errorf("%s is seen only %d times", name, n)
		}
	}
}

func TestRunsOfAllShortLists(t *testing.T) {
	s := seen{}
	for _, text := range []string{"1/2 every 3; 2 every 4", "2 every 3; 1/2 every 4", "1/2 every 2; 2/3 every 3", "1/3 every 3; 1/3 every 4", "1 every 4 by 2; 1/3 every 4 by 3"} {
		list := tasksOf(t, text)
		eachJobs(someJobs(2, 5, 3), 3, func(jobs []impl.Job) {
			for policy := range 2 {
				for _, ticks := range []int{0, 1, 3, 5, 11} {
					if !wantJobs(list, jobs) && ticks != 5 {
						continue
					}
					s.run(list, jobs, policy, ticks, checkRun(t, list, jobs, policy, ticks))
				}
			}
		})
	}
	s.check(t, 20, 50)
}

// TestRunsOfManyJobs takes jobs of all kinds of tasks.
func TestRunsOfManyJobs(t *testing.T) {
	s, d := seen{}, &dice{1}
	for i := range 3000 {
		list := d.tasks(1+i%19, 10+i%90, i%3 > 0)
		jobs := d.jobs(list, 200)
		ticks := d.below(201)
		for policy := range 2 {
			s.run(list, jobs, policy, ticks, checkRun(t, list, jobs, policy, ticks))
			s.run(list, jobs, policy, 200, checkRun(t, list, jobs, policy, 200))
		}
	}
	s.check(t, 20, 25)
}

// TestRunsOfVirtualDeadlines takes tasks that have a factor other than 1, whether they hold by it or not.
func TestRunsOfVirtualDeadlines(t *testing.T) {
	s, d := seen{}, &dice{2}
	for range 20000 {
		list := d.tasks(5, 60, true)
		if x, ok := impl.FactorOf(list); !ok || x.Num == x.Den {
			continue
		}
		s.add("a factor", true)
		jobs := d.jobs(list, 200)
		ticks := 100 + d.below(101)
		r := checkRun(t, list, jobs, impl.ByDue, ticks)
		s.run(list, jobs, impl.ByDue, ticks, r)
		byPlace := checkRun(t, list, jobs, impl.ByPlace, ticks)
		s.add("another run by place", !impl.RunSame(r, byPlace))
	}
	s.check(t, 12, 25)
}

// TestLongerRunsBeginAsShorterOnes takes each number of ticks for the same jobs.
func TestLongerRunsBeginAsShorterOnes(t *testing.T) {
	d := &dice{3}
	for range 12 {
		list := d.tasks(4, 40, true)
		jobs := d.jobs(list, 200)
		for policy := range 2 {
			whole, ok := impl.RunJobs(list, jobs, policy, 200)
			if !ok {
				continue
			}
			for ticks := range 201 {
				r := checkRun(t, list, jobs, policy, ticks)
				if len(r.Trace) != ticks || !slices.Equal(r.Trace, whole.Trace[:ticks]) {
					t.Errorf("the trace of %s, %s for %d ticks is %v, not the first part of %v", told(list), toldJobs(jobs), ticks, r.Trace, whole.Trace)
				}
				if n := len(r.Switches); n > len(whole.Switches) || !slices.Equal(r.Switches, whole.Switches[:n]) {
					t.Errorf("the switches of %s, %s for %d ticks are %v, not the first ones of %v", told(list), toldJobs(jobs), ticks, r.Switches, whole.Switches)
				}
			}
		}
	}
}

// inTime checks that a run of tasks that hold misses nothing that they have to keep: jobs that end do so in time, those of
// critical tasks are never dropped, and none is without a job that needs more than its low need.
func inTime(t *testing.T, list []impl.Task, jobs []impl.Job, policy, ticks int) {
	t.Helper()
	r := checkRun(t, list, jobs, policy, ticks)
	if misses := impl.MissesOf(list, jobs, r); len(misses) > 0 {
		t.Errorf("%s hold by %d, but of %s, the jobs %v are late: %v", told(list), policy, toldJobs(jobs), misses, r)
	}
	for _, at := range impl.DroppedOf(r) {
		if list[jobs[at].Task].Critical {
			t.Errorf("of %s, %s, a critical job is dropped: %v", told(list), toldJobs(jobs), r)
		}
	}
	if high := impl.HighJobs(list, jobs); len(high) == 0 && (len(r.Switches) > 0 || len(impl.DroppedOf(r)) > 0 || r.High) {
		t.Errorf("of %s, %s, the mode becomes high without a high job: %v", told(list), toldJobs(jobs), r)
	}
	if policy != impl.ByPlace {
		return
	}
	for at, x := range list {
		response, _ := impl.ResponseLow(list, at)
		if x.Critical && len(r.Switches) > 0 {
			response, _ = impl.ResponseSwitch(list, at)
		}
		if longest := impl.LongestOf(jobs, r, at); longest > response {
			t.Errorf("of %s, %s, the longest response of %d is %d, above %d", told(list), toldJobs(jobs), at, longest, response)
		}
	}
}

// TestTasksThatHoldMissNothing takes many jobs of tasks that hold by each policy.
func TestTasksThatHoldMissNothing(t *testing.T) {
	s, d := seen{}, &dice{4}
	for i := range 16000 {
		list := d.tasks(5+i%12, 30+i%40, i%4 > 0)
		byPlace, byDue := impl.HoldsBoth(list), impl.HoldsVirtual(list)
		s.add("by place", byPlace)
		s.add("by due", byDue)
		s.add("by due, with a factor", byDue && !impl.HoldsPlain(list))
		for range 2 {
			jobs := d.jobs(list, 200)
			if byPlace {
				inTime(t, list, jobs, impl.ByPlace, 200)
			}
			if byDue {
				inTime(t, list, jobs, impl.ByDue, 200)
			}
		}
	}
	s.check(t, 3, 400)
}

// TestTasksThatHoldMissNothingAtWorst takes the jobs that come as often as they can.
func TestTasksThatHoldMissNothingAtWorst(t *testing.T) {
	tight, d := 0, &dice{5}
	for range 3000 {
		list := d.tasks(3, 60, d.below(2) == 0)
		low, ok := impl.WorstJobs(list, 20, false)
		high, highOk := impl.WorstJobs(list, 20, true)
		if !ok || !highOk {
			continue
		}
		for policy, holds := range []bool{impl.HoldsBoth(list), impl.HoldsVirtual(list)} {
			if holds {
				inTime(t, list, low, policy, 200)
				inTime(t, list, high, policy, 200)
			}
		}
		if !impl.HoldsLow(list) {
			continue
		}
		// With low needs, the response of a task is just the one that is told, at the first tick, at which all jobs come.
		r := checkRun(t, list, low, impl.ByPlace, 200)
		for at := range list {
			if response, _ := impl.ResponseLow(list, at); impl.LongestOf(low, r, at) != response {
				t.Errorf("of %s, %s, the longest response of %d is not %d: %v", told(list), toldJobs(low), at, response, r)
			}
			tight++
		}
	}
	if tight < 500 {
		t.Errorf("only %d responses are compared", tight)
	}
}

// checkNoRun checks that there is no run.
func checkNoRun(t *testing.T, list []impl.Task, jobs []impl.Job, policy, ticks int) {
	t.Helper()
	if r, ok := impl.RunJobs(list, jobs, policy, ticks); ok || !sameRuns(r, impl.Run{}) {
		t.Errorf("RunJobs(%s, %s, %d, %d) = %v, %v", told(list), toldJobs(jobs), policy, ticks, r, ok)
	}
}

func TestPoliciesAndTicksThatThereAreNot(t *testing.T) {
	far := []int{math.MinInt, -1 << 32, 1 << 32, 1<<32 + 1, math.MaxInt}
	for _, text := range []string{"", "1 every 4; 2/3 every 6"} {
		list := tasksOf(t, text)
		for _, jobs := range [][]impl.Job{nil, jobsOf(t, "0@0:1 1@0:3")[:min(2, len(list))]} {
			for _, policy := range append([]int{-2, -1, 2, 3}, far...) {
				for _, ticks := range []int{-1, 0, 1, 8, 200, 201} {
					checkNoRun(t, list, jobs, policy, ticks)
				}
			}
			for policy := range 2 {
				for _, ticks := range append([]int{-201, -2, -1, 201, 202, 1000}, far...) {
					checkNoRun(t, list, jobs, policy, ticks)
				}
				for _, ticks := range []int{0, 1, 2, 199, 200} {
					if r, ok := impl.RunJobs(list, jobs, policy, ticks); !ok || len(r.Trace) != ticks || len(r.Ended) != len(jobs) {
						t.Errorf("RunJobs(%q, %s, %d, %d) = %v, %v", text, toldJobs(jobs), policy, ticks, r, ok)
					}
				}
			}
		}
	}
}

// TestTasksWithoutAFactorHaveNoDeadlines takes tasks that run by their places alone.
func TestTasksWithoutAFactorHaveNoDeadlines(t *testing.T) {
	for _, c := range []struct{ tasks, jobs string }{
		{"1 every 4 by 3", ""},
		{"1 every 4 by 3", "0@0:1"},
		{"1 every 4; 1/2 every 4 by 3", "0@0:1"},
		{"5 every 10; 6/6 every 10", "1@0:6"},
		{"3 every 5; 3 every 6", ""},
		{"20 every 20; 1/1 every 20", "0@0:1 1@0:1"},
	} {
		list, jobs := tasksOf(t, c.tasks), jobsOf(t, c.jobs)
		for _, ticks := range []int{0, 1, 200} {
			checkNoRun(t, list, jobs, impl.ByDue, ticks)
			if r := checkRun(t, list, jobs, impl.ByPlace, ticks); len(r.Trace) != ticks {
				t.Errorf("%q have the trace %v of %d ticks", c.tasks, r.Trace, ticks)
			}
		}
	}
	// There is one, though the tasks do not hold.
	for _, text := range []string{"5 every 10; 5/10 every 10", "1/20 every 20; 1/20 every 20"} {
		list := tasksOf(t, text)
		if r, ok := impl.RunJobs(list, []impl.Job{job(1, 0, 1)}, impl.ByDue, 3); !ok || impl.FormatTrace(r) != "1.." {
			t.Errorf("RunJobs(%q) = %v, %v", text, r, ok)
		}
	}
}

func TestInvalidListsHaveNoRuns(t *testing.T) {
	late := impl.Run{Ended: []int{150}, Trace: make([]int, 200)}
	for _, list := range invalidLists() {
		for _, jobs := range [][]impl.Job{nil, {job(0, 0, 1)}, {job(4, 0, 1)}} {
			for policy := range 2 {
				checkNoRun(t, list, jobs, policy, 8)
				checkNoRun(t, list, jobs, policy, 0)
			}
			if misses := impl.MissesOf(list, jobs, late); len(misses) != 0 {
				t.Errorf("MissesOf(%s, %v) = %v", told(list), jobs, misses)
			}
		}
	}
	for length := 6; length <= 8; length++ {
		six := slices.Repeat([]impl.Task{plain(1, 20, 20)}, length)
		checkNoRun(t, six, nil, impl.ByPlace, 3)
		checkNoRun(t, six, nil, impl.ByDue, 3)
	}
}

func TestInvalidJobsHaveNoRuns(t *testing.T) {
	list := tasksOf(t, "2/4 every 10; 1 every 5")
	lists := [][]impl.Job{
		{job(1, 0, 1), job(0, 0, 2)},
		{job(0, 0, 2), job(0, 0, 2)},
		{job(0, 0, 2), job(0, 9, 2)},
		{job(1, 0, 1), job(0, 2, 1), job(1, 4, 1)},
		{job(0, 10, 2), job(0, 0, 2)},
		{job(0, 0, 5)},
		{job(1, 0, 2)},
		{job(0, 0, 0)},
		{job(0, 0, -1)},
		{job(0, -1, 1)},
		{job(0, 201, 1)},
		{job(2, 0, 1)},
		{job(-1, 0, 1)},
		{job(math.MaxInt, 0, 1)},
		{job(0, math.MinInt, 1)},
		{job(0, 0, math.MaxInt)},
		{job(0, 0, 1), {}},
	}
	for _, jobs := range lists {
		for policy := range 2 {
			for _, ticks := range []int{0, 1, 30, 200} {
				checkNoRun(t, list, jobs, policy, ticks)
			}
		}
		for _, ended := range []int{-1, 200, math.MaxInt} {
			r := impl.Run{Ended: slices.Repeat([]int{ended}, len(jobs)), Trace: make([]int, 300)}
			if misses := impl.MissesOf(list, jobs, r); len(misses) != 0 {
				t.Errorf("MissesOf(%v) = %v", jobs, misses)
			}
		}
	}
}

// TestRunsOfAsManyJobsAsThereMayBe takes sixty jobs that are left together, and one more.
func TestRunsOfAsManyJobsAsThereMayBe(t *testing.T) {
	list := tasksOf(t, "1/1 every 1; 1 every 1; 1/20 every 20")
	var jobs []impl.Job
	for tick := range 31 {
		jobs = append(jobs, job(0, tick, 1), job(1, tick, 1))
	}
	want := strings.Repeat("0", 30) + strings.Repeat("1", 30)
	for _, ticks := range []int{29, 30, 31, 59, 60, 61, 200} {
		r := checkRun(t, list, jobs[:60], impl.ByPlace, ticks)
		if s := impl.FormatTrace(r); s != (want + strings.Repeat(".", 140))[:ticks] {
			t.Errorf("the trace of %d ticks is %q", ticks, s)
		}
	}
	for _, length := range []int{61, 62} {
		checkNoRun(t, list, jobs[:length], impl.ByPlace, 200)
		r := impl.Run{Ended: make([]int, length), Trace: make([]int, 200)}
		r.Ended[0] = 9
		if misses := impl.MissesOf(list, jobs[:length], r); len(misses) != 0 {
			t.Errorf("MissesOf %d jobs = %v", length, misses)
		}
	}
	// A switch drops all that are left of those that are not critical.
	few := tasksOf(t, "1/20 every 20; 1 every 1; 1 every 1; 1 every 1")
	late := []impl.Job{job(0, 12, 2)}
	for tick := 12; len(late) < 60; tick++ {
		late = append(late, job(1, tick, 1), job(2, tick, 1), job(3, tick, 1))[:min(60, len(late)+3)]
	}
	r := checkRun(t, few, late, impl.ByPlace, 60)
	if dropped := impl.DroppedOf(r); !slices.Equal(dropped, []int{1, 2, 3, 4, 5, 6}) || !slices.Equal(r.Switches, []int{13}) {
		t.Errorf("the jobs %v are dropped: %v", dropped, r)
	}
	behind := tasksOf(t, "1 every 1; 1 every 1; 2/20 every 20")
	most := []impl.Job{job(0, 0, 1), job(1, 0, 1), job(2, 0, 3)}
	for tick := 1; len(most) < 59; tick++ {
		most = append(most, job(0, tick, 1), job(1, tick, 1))
	}
	r = checkRun(t, behind, most, impl.ByPlace, 200)
	if impl.RanOf(r, 0) != 29 || impl.RanOf(r, 1) != 29 || impl.RanOf(r, 2) != 3 || !slices.Equal(r.Switches, []int{60}) {
		t.Errorf("the run is %v", r)
	}
}

func TestRunSame(t *testing.T) {
	base := func() impl.Run {
		return impl.Run{Ended: []int{1, -1, -2}, Trace: []int{0, -1, 2}, Switches: []int{3, 5}, High: true}
	}
	check := func(a, b impl.Run, want bool) {
		t.Helper()
		if impl.RunSame(a, b) != want || impl.RunSame(b, a) != want {
			t.Errorf("RunSame(%v, %v) is not %v", a, b, want)
		}
	}
	check(base(), base(), true)
	check(impl.Run{}, impl.Run{}, true)
	check(impl.Run{Ended: []int{}, Trace: []int{}, Switches: []int{}}, impl.Run{}, true)
	check(base(), impl.Run{}, false)
	check(impl.Run{High: true}, impl.Run{}, false)
	fields := []func(r *impl.Run) *[]int{
		func(r *impl.Run) *[]int { return &r.Ended },
		func(r *impl.Run) *[]int { return &r.Trace },
		func(r *impl.Run) *[]int { return &r.Switches },
	}
	for _, field := range fields {
		whole := base()
		for at := range *field(&whole) {
			other := base()
			(*field(&other))[at]++
			check(base(), other, false)
			shorter := base()
			*field(&shorter) = slices.Delete(*field(&shorter), at, at+1)
			check(base(), shorter, false)
		}
		longer, none, alone := base(), base(), impl.Run{}
		*field(&longer) = append(*field(&longer), 0)
		check(base(), longer, false)
		*field(&none) = nil
		check(base(), none, false)
		*field(&alone) = []int{0}
		check(impl.Run{}, alone, false)
		// What is no run at all may be equal all the same.
		*field(&alone) = slices.Repeat([]int{math.MinInt}, 1000)
		same := alone
		*field(&same) = slices.Clone(*field(&alone))
		check(alone, same, true)
	}
	low := base()
	low.High = false
	check(base(), low, false)
	swapped := impl.Run{Ended: base().Trace, Trace: base().Ended, Switches: base().Switches, High: true}
	check(base(), swapped, false)
}

func TestFormatTrace(t *testing.T) {
	for _, c := range []struct {
		trace []int
		text  string
	}{
		{nil, ""},
		{[]int{}, ""},
		{[]int{-1}, "."},
		{[]int{0, 1, 2, 3, 4, -1, 0}, "01234.0"},
		{[]int{5}, ""},
		{[]int{-2}, ""},
		{[]int{0, 1, 5}, ""},
		{[]int{-2, 0, 1}, ""},
		{[]int{10}, ""},
		{[]int{48}, ""},
		{[]int{256}, ""},
		{[]int{1 << 32}, ""},
		{[]int{math.MaxInt}, ""},
		{[]int{math.MinInt}, ""},
		{slices.Repeat([]int{3}, 200), strings.Repeat("3", 200)},
		{slices.Repeat([]int{-1}, 200), strings.Repeat(".", 200)},
		{slices.Repeat([]int{3}, 201), ""},
		{slices.Repeat([]int{-1}, 201), ""},
		{make([]int, 100000), ""},
	} {
		// Nothing but the trace counts.
		for _, r := range []impl.Run{{Trace: c.trace}, {Trace: c.trace, Ended: []int{7, -3}, Switches: []int{-1}, High: true}} {
			if s := impl.FormatTrace(r); s != c.text {
				t.Errorf("FormatTrace(%v) = %q, not %q", r, s, c.text)
			}
		}
	}
	// One that is no place, at each tick.
	for at := range 200 {
		for _, bad := range []int{-2, 5, -1 << 32, 1<<32 + 1} {
			trace := make([]int, 200)
			trace[at] = bad
			if s := impl.FormatTrace(impl.Run{Trace: trace}); s != "" {
				t.Errorf("FormatTrace with %d at %d = %q", bad, at, s)
			}
		}
	}
}

func TestMissesOf(t *testing.T) {
	list, jobs := tasksOf(t, "2/4 every 10 by 8; 1 every 5"), jobsOf(t, "0@0:2 1@0:1 1@5:1 0@10:4")
	// They are due at the ticks 8, 5, 10 and 18.
	for _, c := range []struct {
		ended  []int
		ticks  int
		misses []int
	}{
		{[]int{8, 5, 10, 18}, 18, nil},
		{[]int{9, 5, 10, 18}, 18, []int{0}},
		{[]int{8, 6, 10, 19}, 18, []int{1, 3}},
		{[]int{9, 6, 11, 19}, 0, []int{0, 1, 2, 3}},
		// Those that did not end, by the number of ticks.
		{[]int{-1, -1, -1, -1}, 0, nil},
		{[]int{-1, -1, -1, -1}, 4, nil},
		{[]int{-1, -1, -1, -1}, 5, []int{1}},
		{[]int{-1, -1, -1, -1}, 8, []int{0, 1}},
		{[]int{-1, -1, -1, -1}, 9, []int{0, 1}},
		{[]int{-1, -1, -1, -1}, 17, []int{0, 1, 2}},
		{[]int{-1, -1, -1, -1}, 18, []int{0, 1, 2, 3}},
		{[]int{-1, -1, -1, -1}, 1000, []int{0, 1, 2, 3}},
		// Those that were dropped are never late, nor is what did not end in another way.
		{[]int{-2, -2, -2, -2}, 200, nil},
		{[]int{-3, math.MinInt, -1 << 32, -100}, 200, nil},
		{[]int{math.MaxInt, 0, 1 << 32, 1}, 200, []int{0, 2}},
		{[]int{-2, -1, 11, -2}, 7, []int{1, 2}},
		// Ended that are more or fewer than the jobs.
		{nil, 200, nil},
		{[]int{9, 9, 99}, 200, nil},
		{[]int{9, 9, 99, 99, 99}, 200, nil},
		{make([]int, 1000), 200, nil},
	} {
		r := impl.Run{Ended: c.ended, Trace: make([]int, c.ticks)}
		if misses := impl.MissesOf(list, jobs, r); !slices.Equal(misses, c.misses) {
			t.Errorf("MissesOf(%v, %d ticks) = %v, not %v", c.ended, c.ticks, misses, c.misses)
		}
		checkTold(t, list, jobs, r)
		// What ran at the ticks does not matter.
		for at := range r.Trace {
			r.Trace[at] = at - 7
		}
		checkTold(t, list, jobs, r)
	}
	if misses := impl.MissesOf(nil, nil, impl.Run{Trace: make([]int, 200)}); len(misses) != 0 {
		t.Errorf("MissesOf no jobs = %v", misses)
	}
}

func TestDroppedOf(t *testing.T) {
	for _, c := range []struct{ ended, dropped []int }{
		{nil, nil},
		{[]int{-2}, []int{0}},
		{[]int{0, -1, -3, 2, math.MinInt}, nil},
		{[]int{-2, 4, -1, -2, -2, 0, -2}, []int{0, 3, 4, 6}},
		{slices.Repeat([]int{-2}, 61), firstNumbers(61)},
		{slices.Repeat([]int{-2}, 1000), firstNumbers(1000)},
	} {
		r := impl.Run{Ended: c.ended, Trace: []int{-2}, Switches: []int{-2}}
		if dropped := impl.DroppedOf(r); !slices.Equal(dropped, c.dropped) {
			t.Errorf("DroppedOf(%v) = %v, not %v", c.ended, dropped, c.dropped)
		}
	}
}

// firstNumbers returns so many numbers from 0 on.
func firstNumbers(n int) []int {
	list := make([]int, n)
	for i := range list {
		list[i] = i
	}
	return list
}

func TestLongestOf(t *testing.T) {
	for _, c := range []struct {
		jobs    []impl.Job
		ended   []int
		task    int
		longest int
	}{
		{nil, nil, 0, 0},
		{[]impl.Job{job(0, 3, 1)}, []int{7}, 0, 4},
		{[]impl.Job{job(0, 3, 1)}, []int{7}, 1, 0},
		{[]impl.Job{job(0, 3, 1)}, []int{7}, -1, 0},
		// The greatest one, first, between and last, of the task alone.
		{[]impl.Job{job(0, 0, 1), job(1, 0, 1), job(0, 10, 1), job(0, 20, 1)}, []int{4, 9, 12, 23}, 0, 4},
		{[]impl.Job{job(0, 0, 1), job(1, 0, 1), job(0, 10, 1), job(0, 20, 1)}, []int{4, 9, 15, 23}, 0, 5},
		{[]impl.Job{job(0, 0, 1), job(1, 0, 1), job(0, 10, 1), job(0, 20, 1)}, []int{4, 9, 12, 26}, 0, 6},
		{[]impl.Job{job(0, 0, 1), job(1, 0, 1), job(0, 10, 1), job(0, 20, 1)}, []int{4, 9, 12, 26}, 1, 9},
		// Jobs that did not end, or were dropped.
		{[]impl.Job{job(0, 0, 1), job(0, 10, 1)}, []int{-1, -2}, 0, 0},
		{[]impl.Job{job(0, 0, 1), job(0, 10, 1)}, []int{-1, 13}, 0, 3},
		{[]impl.Job{job(0, 0, 1), job(0, 10, 1)}, []int{2, -2}, 0, 2},
		{[]impl.Job{job(0, 0, 1), job(0, 10, 1)}, []int{math.MinInt, 11}, 0, 1},
		// Numbers that no run has: an end before the job comes, or at once, and one that comes before the first tick.
		{[]impl.Job{job(0, 9, 1)}, []int{0}, 0, 0},
		{[]impl.Job{job(0, 9, 1)}, []int{9}, 0, 0},
		{[]impl.Job{job(0, 0, 1)}, []int{0}, 0, 0},
		{[]impl.Job{job(0, -1, 1)}, []int{5}, 0, 0},
		{[]impl.Job{job(0, -9, 1), job(0, 0, 1)}, []int{5, 3}, 0, 3},
		{[]impl.Job{job(0, math.MinInt, 1)}, []int{math.MaxInt}, 0, 0},
		{[]impl.Job{job(0, 0, 1)}, []int{math.MaxInt}, 0, math.MaxInt},
		{[]impl.Job{job(0, 1, 1)}, []int{math.MaxInt}, 0, math.MaxInt - 1},
		{[]impl.Job{job(0, math.MaxInt, 1)}, []int{0}, 0, 0},
		{[]impl.Job{job(0, math.MaxInt, 1)}, []int{math.MinInt}, 0, 0},
		{[]impl.Job{job(0, -1, 1)}, []int{-1}, 0, 0},
		{[]impl.Job{job(0, -3, 1)}, []int{-1}, 0, 0},
		// The jobs need not be valid ones.
		{[]impl.Job{job(7, 300, 0)}, []int{307}, 7, 7},
		{[]impl.Job{job(0, 5, 1), job(0, 5, 1), job(0, 0, 1)}, []int{8, 9, 3}, 0, 4},
		{slices.Repeat([]impl.Job{job(2, 5, 1)}, 100), slices.Repeat([]int{8}, 100), 2, 3},
		// Ended that are more or fewer than the jobs.
		{[]impl.Job{job(0, 3, 1)}, nil, 0, 0},
		{[]impl.Job{job(0, 3, 1)}, []int{7, 8}, 0, 0},
		{[]impl.Job{job(0, 3, 1), job(0, 9, 1)}, []int{7}, 0, 0},
		{nil, []int{7}, 0, 0},
	} {
		r := impl.Run{Ended: c.ended}
		if n := impl.LongestOf(c.jobs, r, c.task); n != c.longest {
			t.Errorf("LongestOf(%v, %v, %d) = %d, not %d", c.jobs, c.ended, c.task, n, c.longest)
		}
	}
}

func TestRanOfAndIdleOf(t *testing.T) {
	trace := []int{0, 0, -1, 4, 2, -1, 0, 7, -1, math.MaxInt, -2, -1}
	for _, c := range []struct{ task, ran int }{
		{0, 3}, {1, 0}, {2, 1}, {3, 0}, {4, 1}, {5, 0}, {7, 1}, {-2, 1}, {-1, 4}, {-3, 0}, {math.MaxInt, 1}, {math.MinInt, 0},
	} {
		r := impl.Run{Trace: trace, Ended: []int{c.task}, Switches: []int{c.task}}
		if n := impl.RanOf(r, c.task); n != c.ran {
			t.Errorf("RanOf(%v, %d) = %d, not %d", trace, c.task, n, c.ran)
		}
		if n := impl.IdleOf(r); n != 4 {
			t.Errorf("IdleOf(%v) = %d", trace, n)
		}
		if n := impl.RanOf(impl.Run{}, c.task); n != 0 {
			t.Errorf("RanOf no ticks = %d", n)
		}
	}
	if n := impl.IdleOf(impl.Run{Ended: []int{-1}}); n != 0 {
		t.Errorf("IdleOf no ticks = %d", n)
	}
	for _, length := range []int{200, 201, 1000} {
		long := impl.Run{Trace: slices.Repeat([]int{3, -1}, length)}
		if ran, idle := impl.RanOf(long, 3), impl.IdleOf(long); ran != length || idle != length {
			t.Errorf("of %d ticks each, RanOf = %d, IdleOf = %d", length, ran, idle)
		}
	}
	// Tasks that ran and ticks at which nobody did are all the ticks.
	d := &dice{6}
	for range 200 {
		list := d.tasks(3, 40, false)
		r := checkRun(t, list, d.jobs(list, 100), impl.ByPlace, 120)
		sum := impl.IdleOf(r)
		for at := range list {
			sum += impl.RanOf(r, at)
		}
		if sum != 120 {
			t.Errorf("of %v, there are %d ticks", r, sum)
		}
	}
}

// partsOf are the numbers of a run.
func partsOf(r impl.Run) [][]int { return [][]int{r.Ended, r.Trace, r.Switches} }

// overwriteNumbers fills numbers, and their unused capacity.
func overwriteNumbers(list []int) {
	list = list[:cap(list)]
	for i := range list {
		list[i] = -77
	}
}

func cloneRun(r impl.Run) impl.Run {
	return impl.Run{Ended: slices.Clone(r.Ended), Trace: slices.Clone(r.Trace), Switches: slices.Clone(r.Switches), High: r.High}
}

// TestRunsShareNothing checks that the parts of a run share memory with neither each other nor another run, and that RunJobs
// changes neither tasks nor jobs.
func TestRunsShareNothing(t *testing.T) {
	d := &dice{7}
	for i := range 300 {
		list := d.tasks(2+i%9, 50, true)
		jobs, policy := d.jobs(list, 60), i%2
		if i%10 == 0 {
			jobs = append(jobs, job(0, 0, 99))
		}
		want, ok := impl.RunJobs(list, jobs, policy, 70)
		if _, wanted := wantRun(list, jobs, policy, 70); ok != wanted {
			t.Errorf("RunJobs(%s, %s) is %v", told(list), toldJobs(jobs), ok)
		}
		kept := cloneRun(want)
		for part := range 3 {
			r, _ := impl.RunJobs(list, jobs, policy, 70)
			overwriteNumbers(partsOf(r)[part])
			for other := range 3 {
				if other != part && !slices.Equal(partsOf(r)[other], partsOf(kept)[other]) {
					t.Errorf("parts of a run of %s, %s share memory", told(list), toldJobs(jobs))
				}
			}
			if !sameRuns(want, kept) {
				t.Errorf("two runs of %s, %s share memory", told(list), toldJobs(jobs))
			}
		}
		checkJobsApart(t, "RunJobs", list, jobs, func(list []impl.Task, jobs []impl.Job) []impl.Job {
			impl.RunJobs(list, jobs, policy, 70)
			return nil
		})
	}
}

// checkRunApart checks that a function changes neither a run nor what lies behind its parts, and that its result shares memory
// with neither them nor another result.
func checkRunApart(t *testing.T, name string, r impl.Run, f func(r impl.Run) []int) {
	t.Helper()
	memory := [][]int{}
	for _, part := range partsOf(r) {
		memory = append(memory, slices.Concat([]int{-9}, part, slices.Repeat([]int{-9}, 8)))
	}
	argument := impl.Run{Ended: memory[0][1 : 1+len(r.Ended)], Trace: memory[1][1 : 1+len(r.Trace)], Switches: memory[2][1 : 1+len(r.Switches)], High: r.High}
	first := f(argument)
	want := slices.Clone(first)
	overwriteNumbers(f(argument))
	if !slices.Equal(first, want) {
		t.Errorf("%s(%v): two results share memory", name, r)
	}
	overwriteNumbers(first)
	for i, part := range partsOf(r) {
		if !slices.Equal(memory[i], slices.Concat([]int{-9}, part, slices.Repeat([]int{-9}, 8))) {
			t.Errorf("%s(%v) changes the run, the memory behind it, or returns it", name, r)
		}
	}
	if again := f(argument); !slices.Equal(again, want) {
		t.Errorf("%s(%v) = %v after its results were overwritten, not %v", name, r, again, want)
	}
}

func TestFunctionsOfRunsKeepTheirArguments(t *testing.T) {
	list := tasksOf(t, "1 every 4; 2/3 every 6; 1 every 6 by 2")
	jobs := jobsOf(t, "0@0:1 1@0:3 2@0:1 0@4:1 2@6:1")
	whole, _ := impl.RunJobs(list, jobs, impl.ByPlace, 8)
	runs := []impl.Run{{}, whole, {Ended: []int{99, -1, -2, 99, -1}, Trace: make([]int, 9), Switches: []int{1, 2}, High: true}, {Ended: []int{-2, -2}, Trace: []int{9, -7}}}
	for _, r := range runs {
		checkRunApart(t, "DroppedOf", r, impl.DroppedOf)
		checkRunApart(t, "MissesOf", r, func(r impl.Run) []int { return impl.MissesOf(list, jobs, r) })
		checkRunApart(t, "the other functions", r, func(r impl.Run) []int {
			return []int{impl.LongestOf(jobs, r, 1), impl.IdleOf(r), impl.RanOf(r, 1), len(impl.FormatTrace(r))}
		})
		checkRunApart(t, "RunSame", r, func(r impl.Run) []int {
			if !impl.RunSame(r, r) {
				t.Errorf("RunSame(%v) with itself is false", r)
			}
			impl.RunSame(whole, r)
			return nil
		})
		none := func(f func([]impl.Task, []impl.Job)) func([]impl.Task, []impl.Job) []impl.Job {
			return func(list []impl.Task, jobs []impl.Job) []impl.Job {
				f(list, jobs)
				return nil
			}
		}
		checkJobsApart(t, "MissesOf", list, jobs, none(func(list []impl.Task, jobs []impl.Job) { impl.MissesOf(list, jobs, r) }))
		checkJobsApart(t, "LongestOf", list, jobs, none(func(_ []impl.Task, jobs []impl.Job) { impl.LongestOf(jobs, r, 1) }))
	}
}
