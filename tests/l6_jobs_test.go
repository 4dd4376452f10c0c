package tests

import (
	"fmt"
	"math"
	"slices"
	"strings"
	"sync"
	"testing"

	"loop.example/dualmodes/impl"
)

// job writes a job without names of fields.
func job(task, at, need int) impl.Job { return impl.Job{Task: task, At: at, Need: need} }

// jobsOf parses jobs that have a text.
func jobsOf(t *testing.T, text string) []impl.Job {
	t.Helper()
	jobs, ok := impl.ParseJobs(text)
	if !ok || impl.FormatJobs(jobs) != text {
		t.Fatalf("ParseJobs(%q) = %v, %v", text, jobs, ok)
	}
	return jobs
}

func sameJobs(a, b []impl.Job) bool { return slices.Equal(a, b) }

// toldJobs writes jobs for a message, the first ones of too many.
func toldJobs(jobs []impl.Job) string {
	if len(jobs) <= 61 {
		return fmt.Sprint(jobs)
	}
	return fmt.Sprintf("%v and %d more", jobs[:5], len(jobs)-5)
}

func between(least, n, most int) bool { return least <= n && n <= most }

// wantText writes jobs as the specification says, apart from the program; it returns false if they have no text.
func wantText(jobs []impl.Job) (string, bool) {
	var texts []string
	for _, j := range jobs {
		if !between(0, j.Task, 4) || !between(0, j.At, 200) || !between(1, j.Need, 20) {
			return "", false
		}
		texts = append(texts, fmt.Sprintf("%d@%d:%d", j.Task, j.At, j.Need))
	}
	return strings.Join(texts, " "), len(jobs) <= 60
}

// wantOf finds whether a job is one of valid tasks.
func wantOf(list []impl.Task, j impl.Job) bool {
	return between(0, j.Task, len(list)-1) && between(0, j.At, 200) && between(1, j.Need, list[j.Task].High)
}

// goesFirst finds whether a job goes before another one in a list of jobs.
func goesFirst(a, b impl.Job) bool {
	if a.At == b.At {
		return a.Task < b.Task
	}
	return a.At < b.At
}

// wantJobs finds whether jobs are ones of valid tasks, by holding each two of them against each other.
func wantJobs(list []impl.Task, jobs []impl.Job) bool {
	for i, j := range jobs {
		if !wantOf(list, j) {
			return false
		}
		for _, earlier := range jobs[:i] {
			if !goesFirst(earlier, j) || earlier.Task == j.Task && j.At-earlier.At < list[j.Task].Every {
				return false
			}
		}
	}
	return len(jobs) <= 60
}

// wantWorst finds the jobs that come as often as they can before a tick, by trying each tick.
func wantWorst(list []impl.Task, until int, high bool) ([]impl.Job, bool) {
	var jobs []impl.Job
	for tick := range min(max(until, 0), 201) {
		for place, x := range list {
			need := x.Low
			if high {
				need = x.High
			}
			if tick%x.Every == 0 {
				jobs = append(jobs, job(place, tick, need))
			}
		}
	}
	if !between(0, until, 200) || len(jobs) > 60 {
		return nil, false
	}
	return jobs, true
}

// wantPut finds jobs with another one, all of valid tasks.
func wantPut(list []impl.Task, jobs []impl.Job, j impl.Job) ([]impl.Job, bool) {
	put := append(slices.Clone(jobs), j)
	slices.SortStableFunc(put, func(a, b impl.Job) int {
		if goesFirst(a, b) {
			return -1
		}
		if goesFirst(b, a) {
			return 1
		}
		return 0
	})
	if !wantJobs(list, jobs) || !wantJobs(list, put) {
		return nil, false
	}
	return put, true
}

// checkJobs checks all of what jobs of valid tasks are told.
func checkJobs(t *testing.T, list []impl.Task, jobs []impl.Job) {
	t.Helper()
	valid := wantJobs(list, jobs)
	if impl.JobsValid(list, jobs) != valid {
		t.Errorf("JobsValid(%s, %s) = %v", told(list), toldJobs(jobs), !valid)
	}
	var want []int
	for place, j := range jobs {
		if valid && j.Need > list[j.Task].Low {
			want = append(want, place)
		}
	}
	if got := impl.HighJobs(list, jobs); !slices.Equal(got, want) {
		t.Errorf("HighJobs(%s, %s) = %v, not %v", told(list), toldJobs(jobs), got, want)
	}
	for _, j := range jobs {
		checkDue(t, list, j)
	}
	checkTextAndNeeds(t, jobs)
}

// checkDue checks when a job of valid tasks has to be done.
func checkDue(t *testing.T, list []impl.Task, j impl.Job) {
	t.Helper()
	want, valid := 0, wantOf(list, j)
	if valid {
		want = j.At + list[j.Task].Due
	}
	if got, ok := impl.DueAt(list, j); got != want || ok != valid {
		t.Errorf("DueAt(%s, %v) = %d, %v, not %d, %v", told(list), j, got, ok, want, valid)
	}
}

// checkTextAndNeeds checks what is told of jobs of any tasks.
func checkTextAndNeeds(t *testing.T, jobs []impl.Job) {
	t.Helper()
	text, ok := wantText(jobs)
	if !ok {
		text = ""
	}
	if s := impl.FormatJobs(jobs); s != text {
		t.Errorf("FormatJobs(%s) = %q, not %q", toldJobs(jobs), s, text)
	}
	if got, read := impl.ParseJobs(text); ok && (!read || !sameJobs(got, jobs)) {
		t.Errorf("ParseJobs(%q) = %s, %v", text, toldJobs(got), read)
	}
	for _, task := range []int{-2, -1, 0, 1, 2, 3, 4, 5, 6, math.MaxInt, math.MinInt} {
		need := 0
		for _, j := range jobs {
			if ok && j.Task == task {
				need += j.Need
			}
		}
		if n := impl.NeedOf(jobs, task); n != need {
			t.Errorf("NeedOf(%s, %d) = %d, not %d", toldJobs(jobs), task, n, need)
		}
	}
}

// checkPutJob checks PutJob for valid tasks.
func checkPutJob(t *testing.T, list []impl.Task, jobs []impl.Job, j impl.Job) {
	t.Helper()
	want, valid := wantPut(list, jobs, j)
	if put, ok := impl.PutJob(list, jobs, j); ok != valid || !sameJobs(put, want) {
		t.Errorf("PutJob(%s, %s, %v) = %s, %v, not %s, %v", told(list), toldJobs(jobs), j, toldJobs(put), ok, toldJobs(want), valid)
	}
}

// checkWorst checks WorstJobs for valid tasks, with both needs.
func checkWorst(t *testing.T, list []impl.Task, until int) {
	t.Helper()
	for _, high := range []bool{false, true} {
		want, valid := wantWorst(list, until, high)
		jobs, ok := impl.WorstJobs(list, until, high)
		if ok != valid || !sameJobs(jobs, want) {
			t.Errorf("WorstJobs(%s, %d, %v) = %s, %v, not %s, %v", told(list), until, high, toldJobs(jobs), ok, toldJobs(want), valid)
		}
		if ok && !impl.JobsValid(list, jobs) {
			t.Errorf("WorstJobs(%s, %d, %v) = %s are not valid", told(list), until, high, toldJobs(jobs))
		}
	}
}

// checkNoJobs checks that tasks that are not valid have no jobs.
func checkNoJobs(t *testing.T, list []impl.Task) {
	t.Helper()
	for _, jobs := range [][]impl.Job{nil, {job(0, 0, 1)}, {job(0, 0, 1), job(0, 20, 1)}, {job(4, 0, 1)}, {job(5, 0, 1)}, {job(-1, 0, 1)}} {
		if impl.JobsValid(list, jobs) {
			t.Errorf("JobsValid(%s, %v) is true", told(list), jobs)
		}
		if places := impl.HighJobs(list, jobs); len(places) != 0 {
			t.Errorf("HighJobs(%s, %v) = %v", told(list), jobs, places)
		}
		for at := range 5 {
			j := job(at, 40, 1)
			if put, ok := impl.PutJob(list, jobs, j); ok || len(put) != 0 {
				t.Errorf("PutJob(%s, %v, %v) = %v, %v", told(list), jobs, j, put, ok)
			}
		}
	}
	for at := -1; at <= 6; at++ {
		if due, ok := impl.DueAt(list, job(at, 0, 1)); ok || due != 0 {
			t.Errorf("DueAt(%s) of the task %d = %d, %v", told(list), at, due, ok)
		}
	}
	for _, until := range []int{-1, 0, 1, 20, 200, 201} {
		for _, high := range []bool{false, true} {
			if jobs, ok := impl.WorstJobs(list, until, high); ok || len(jobs) != 0 {
				t.Errorf("WorstJobs(%s, %d, %v) = %v, %v", told(list), until, high, jobs, ok)
			}
		}
	}
}

func TestLimitsOfJobs(t *testing.T) {
	if impl.MaxJobs != 60 || impl.MaxTicks != 200 {
		t.Errorf("MaxJobs, MaxTicks = %d, %d", impl.MaxJobs, impl.MaxTicks)
	}
}

func TestJobsOfTheExample(t *testing.T) {
	jobs := jobsOf(t, "0@0:2 1@0:1 0@10:4")
	if !sameJobs(jobs, []impl.Job{job(0, 0, 2), job(1, 0, 1), job(0, 10, 4)}) {
		t.Errorf("ParseJobs = %v", jobs)
	}
	if n, m := impl.NeedOf(jobs, 0), impl.NeedOf(jobs, 1); n != 6 || m != 1 {
		t.Errorf("NeedOf = %d, %d", n, m)
	}
	list := tasksOf(t, "2/4 every 10 by 8; 1 every 5")
	if !impl.JobsValid(list, jobs) {
		t.Error("JobsValid refuses the example")
	}
	if places := impl.HighJobs(list, jobs); !slices.Equal(places, []int{2}) {
		t.Errorf("HighJobs = %v", places)
	}
	for place, want := range []int{8, 5, 18} {
		if due, ok := impl.DueAt(list, jobs[place]); !ok || due != want {
			t.Errorf("DueAt(%v) = %d, %v", jobs[place], due, ok)
		}
	}
	put, ok := impl.PutJob(list, jobs, job(1, 5, 1))
	if s := impl.FormatJobs(put); !ok || s != "0@0:2 1@0:1 1@5:1 0@10:4" {
		t.Errorf("PutJob = %q, %v", s, ok)
	}
	worst, ok := impl.WorstJobs(list, 11, true)
	if s := impl.FormatJobs(worst); !ok || s != "0@0:4 1@0:1 1@5:1 0@10:4 1@10:1" {
		t.Errorf("WorstJobs = %q, %v", s, ok)
	}
	checkJobs(t, list, jobs)
}

func TestNoJobs(t *testing.T) {
	for _, list := range [][]impl.Task{nil, {}, someTasks(1), someTasks(5)} {
		for _, jobs := range [][]impl.Job{nil, {}, make([]impl.Job, 0, 4), make([]impl.Job, 61)[:0]} {
			if !impl.JobsValid(list, jobs) {
				t.Errorf("JobsValid(%s, none) is false", told(list))
			}
			checkJobs(t, list, jobs)
			checkPutJob(t, list, jobs, job(0, 0, 1))
		}
	}
	if jobs, ok := impl.ParseJobs(""); !ok || len(jobs) != 0 {
		t.Errorf("ParseJobs of no text = %v, %v", jobs, ok)
	}
}

func TestNoTasksHaveNoJobs(t *testing.T) {
	for _, list := range [][]impl.Task{nil, {}, someTasks(3)[:0]} {
		for _, until := range []int{-1, 0, 1, 61, 199, 200, 201, math.MaxInt, math.MinInt} {
			checkWorst(t, list, until)
		}
		for at := -1; at <= 5; at++ {
			checkJobs(t, list, []impl.Job{job(at, 0, 1)})
			checkPutJob(t, list, nil, job(at, 0, 1))
		}
	}
}

// edgesOf are numbers around two bounds, and far from them.
func edgesOf(least, most int) []int {
	return []int{least - 1, least, least + 1, (least + most) / 2, most - 1, most, most + 1, -7, 1<<32 + 1, -1 << 32, math.MaxInt, math.MinInt}
}

// edgeJobs are jobs with numbers around the bounds of any tasks.
func edgeJobs() []impl.Job {
	var jobs []impl.Job
	for _, task := range edgesOf(0, 4) {
		for _, at := range edgesOf(0, 200) {
			for _, need := range edgesOf(1, 20) {
				jobs = append(jobs, job(task, at, need))
			}
		}
	}
	return jobs
}

// jobsByText is what all jobs that have a text are, by their texts.
var jobsByText = sync.OnceValue(func() map[string]impl.Job {
	byText := map[string]impl.Job{}
	for task := range 5 {
		for at := range 201 {
			for need := 1; need <= 20; need++ {
				byText[fmt.Sprint(task, "@", at, ":", need)] = job(task, at, need)
			}
		}
	}
	if len(byText) != 5*201*20 {
		panic(fmt.Sprintf("jobs have only %d texts", len(byText)))
	}
	return byText
})

// checkParseJobs checks ParseJobs of any text, by the texts that jobs have.
func checkParseJobs(t *testing.T, byText map[string]impl.Job, s string) {
	t.Helper()
	var want []impl.Job
	valid := true
	if s != "" {
		for _, text := range strings.Split(s, " ") {
			j, ok := byText[text]
			want, valid = append(want, j), valid && ok
		}
	}
	if !valid || len(want) > 60 {
		want, valid = nil, false
	}
	if jobs, ok := impl.ParseJobs(s); ok != valid || !sameJobs(jobs, want) {
		t.Errorf("ParseJobs(%.300q) = %s, %v, not %s, %v", s, toldJobs(jobs), ok, toldJobs(want), valid)
	}
}

func TestTextOfEachJob(t *testing.T) {
	for text, j := range jobsByText() {
		if s := impl.FormatJobs([]impl.Job{j}); s != text {
			t.Errorf("FormatJobs(%v) = %q, not %q", j, s, text)
		}
		if jobs, ok := impl.ParseJobs(text); !ok || !sameJobs(jobs, []impl.Job{j}) {
			t.Errorf("ParseJobs(%q) = %v, %v", text, jobs, ok)
		}
	}
	for _, j := range edgeJobs() {
		checkTextAndNeeds(t, []impl.Job{j})
		checkTextAndNeeds(t, []impl.Job{job(0, 0, 1), j})
		checkTextAndNeeds(t, []impl.Job{j, job(4, 200, 20)})
	}
}

func TestFormatJobs(t *testing.T) {
	for _, c := range []struct {
		jobs []impl.Job
		text string
	}{
		{nil, ""},
		{[]impl.Job{job(0, 0, 1)}, "0@0:1"},
		{[]impl.Job{job(4, 200, 20)}, "4@200:20"},
		{[]impl.Job{job(0, 0, 2), job(1, 0, 1), job(0, 10, 4)}, "0@0:2 1@0:1 0@10:4"},
		// A text asks for no order, no distance and no tasks.
		{[]impl.Job{job(3, 100, 9), job(0, 7, 10), job(0, 7, 10), job(4, 0, 11)}, "3@100:9 0@7:10 0@7:10 4@0:11"},
		{[]impl.Job{job(5, 0, 1)}, ""},
		{[]impl.Job{job(-1, 0, 1)}, ""},
		{[]impl.Job{job(0, -1, 1)}, ""},
		{[]impl.Job{job(0, 201, 1)}, ""},
		{[]impl.Job{job(0, 0, 0)}, ""},
		{[]impl.Job{job(0, 0, -1)}, ""},
		{[]impl.Job{job(0, 0, 21)}, ""},
		{[]impl.Job{job(0, 0, 1), {}, job(0, 0, 1)}, ""},
	} {
		if s := impl.FormatJobs(c.jobs); s != c.text {
			t.Errorf("FormatJobs(%v) = %q, not %q", c.jobs, s, c.text)
		}
		checkTextAndNeeds(t, c.jobs)
	}
}

// manyJobs returns so many jobs that have a text, in no order.
func manyJobs(length int) []impl.Job {
	jobs := make([]impl.Job, length)
	for i := range jobs {
		jobs[i] = job(i*3%5, i*37%201, i*7%20+1)
	}
	return jobs
}

func TestTextsOfManyJobs(t *testing.T) {
	byText := jobsByText()
	for length := range 130 {
		jobs := manyJobs(length)
		checkTextAndNeeds(t, jobs)
		var texts []string
		for _, j := range jobs {
			texts = append(texts, fmt.Sprint(j.Task, "@", j.At, ":", j.Need))
		}
		s := strings.Join(texts, " ")
		if got, want := impl.FormatJobs(jobs), s; length <= 60 && got != want || length > 60 && got != "" {
			t.Errorf("FormatJobs of %d jobs = %q", length, got)
		}
		checkParseJobs(t, byText, s)
		checkParseJobs(t, byText, s+" ")
		checkParseJobs(t, byText, " "+s)
	}
	if s := impl.FormatJobs(manyJobs(100000)); s != "" || impl.NeedOf(manyJobs(100000), 0) != 0 {
		t.Errorf("FormatJobs of 100000 jobs = %.100q", s)
	}
	// One job that has no text at each place among 60.
	for at := range 60 {
		for _, bad := range []impl.Job{{}, job(5, 0, 1), job(0, 201, 1), job(0, 0, 21), job(-1, 0, 1), job(0, -1, 1)} {
			jobs := manyJobs(60)
			jobs[at] = bad
			checkTextAndNeeds(t, jobs)
		}
	}
}

func TestParseJobsOfNearTexts(t *testing.T) {
	byText := jobsByText()
	for _, s := range []string{"", "0@0:1", "4@200:20", "0@0:2 1@0:1 0@10:4", "3@100:10 0@19:9", "1@1:1 1@1:1"} {
		checkParseJobs(t, byText, s)
		nearTexts(s, allBytes(), func(near string) { checkParseJobs(t, byText, near) })
	}
	for _, s := range []string{"0@0:1", "4@200:20"} {
		nearTexts(s, "0129@: -+", func(near string) {
			nearTexts(near, "0129@: -+", func(nearer string) { checkParseJobs(t, byText, nearer) })
		})
	}
	for _, length := range []int{59, 60, 61} {
		jobs := strings.Repeat("0@0:1 ", length-1) + "0@0:1"
		checkParseJobs(t, byText, jobs)
		nearTexts(jobs, "0 @", func(near string) { checkParseJobs(t, byText, near) })
	}
}

func TestParseJobsOfInvalidTexts(t *testing.T) {
	one := "0@0:1"
	for _, s := range []string{
		" ", "  ", "@", ":", "@:", "0", "0@", "@0", "0@0", "0:1", "0@0:", "0@:1", "@0:1", ":1", "0@0 :1", "0 @0:1", "0@0: 1",
		// A mark that lacks, is there twice, or is in the place of another one.
		"00:1", "0@01", "001", "0@@0:1", "0@0::1", "0@0:1:1", "0@0@0:1", "0:0@1", "0:0:1", "0@0@1", "0@0;1", "0#0:1", "@0@0:1", "0@0:1@", "0@0:1:", ":0@0:1",
		// A zero in front, a sign, and what is no number.
		"00@0:1", "0@00:1", "0@0:01", "01@0:1", "1@01:1", "-0@0:1", "0@-0:1", "0@0:-1", "0@0:-0", "-1@0:1", "0@-1:1", "+0@0:1", "0@+0:1", "0@0:+1", "+1@0:1", "0@+1:1",
		"a@0:1", "0@a:1", "0@0:a", "0x1@0:1", "0@0x1:1", "0@0:0x1", "1_0@0:1", "0@1_0:1", "0@0:1_0", "0@1.0:1", "0@1e1:1", "\u0661@0:1", "0@\uff11:1", "0@0:\u0661", "\xff@0:1", "0@0:1\xff",
		// Numbers that are too small or too great.
		"5@0:1", "10@0:1", "0@201:1", "0@1000:1", "0@0:0", "0@0:21", "0@0:100", "4294967296@0:1", "0@4294967296:1", "0@0:4294967297",
		"18446744073709551616@0:1", "0@18446744073709551616:1", "0@0:18446744073709551617", "9223372036854775808@0:1", "0@9223372036854775808:1", "0@0:9223372036854775808",
		strings.Repeat("9", 100000) + "@0:1", "0@" + strings.Repeat("0", 100000) + ":1", "0@0:" + strings.Repeat("1", 100000),
		// Spaces that are too many, and what is none.
		" " + one, one + " ", " " + one + " ", one + "  " + one, one + " " + one + " ", " " + one + " " + one, one + "\n", one + "\t" + one, one + "\n" + one, one + one, one + "," + one, one + "; " + one, one + "\u00a0" + one, one + "\x00", "\x00",
		// A job among others.
		one + " 0@0", "0@0 " + one, one + " x " + one, one + " 5@0:1 " + one, one + " 0@201:1", "0@0:21 " + one, one + " 00@0:1",
		strings.Repeat(one+" ", 60) + one, strings.Repeat(one+" ", 60), strings.Repeat(one+" ", 100000) + one, strings.Repeat(" ", 100000), strings.Repeat("@", 100000),
	} {
		if jobs, ok := impl.ParseJobs(s); ok || len(jobs) != 0 {
			t.Errorf("ParseJobs(%.100q) = %s, %v", s, toldJobs(jobs), ok)
		}
	}
}

func TestJobsValid(t *testing.T) {
	for _, c := range []struct {
		tasks, jobs string
		valid       bool
	}{
		{"2/4 every 10 by 8; 1 every 5", "0@0:2 1@0:1 1@5:1 0@10:4", true},
		// Jobs that come at the same tick, in and out of the order of their tasks.
		{"1 every 9; 1 every 9; 1 every 9", "0@3:1 1@3:1 2@3:1", true},
		{"1 every 9; 1 every 9; 1 every 9", "0@3:1 2@3:1", true},
		{"1 every 9; 1 every 9; 1 every 9", "1@3:1 0@3:1 2@3:1", false},
		{"1 every 9; 1 every 9; 1 every 9", "0@3:1 2@3:1 1@3:1", false},
		{"1 every 9; 1 every 9; 1 every 9", "2@3:1 0@4:1 1@4:1", true},
		{"1 every 9; 1 every 9", "0@4:1 1@3:1", false},
		{"1 every 9; 1 every 9", "1@4:1 0@3:1", false},
		// A task whose next job comes just in time, one tick before, and at the same tick, also with one of another between.
		{"1 every 9", "0@3:1 0@12:1 0@21:1", true},
		{"1 every 9", "0@3:1 0@11:1", false},
		{"1 every 9", "0@3:1 0@3:1", false},
		{"1 every 9", "0@12:1 0@3:1", false},
		{"1 every 9; 1 every 4", "0@3:1 1@4:1 1@8:1 0@12:1", true},
		{"1 every 9; 1 every 4", "0@3:1 1@4:1 1@8:1 0@11:1", false},
		{"1 every 9; 1 every 4", "0@3:1 1@4:1 1@7:1 0@12:1", false},
		{"1 every 9; 1 every 4", "0@0:1 1@4:1 0@9:1 1@9:1 0@18:1 1@20:1", true},
		{"1 every 9; 1 every 4", "0@0:1 1@4:1 0@9:1 1@9:1 0@17:1 1@20:1", false},
		{"1 every 1", "0@3:1 0@4:1 0@5:1", true},
		{"1 every 1", "0@3:1 0@3:1", false},
		// Every counts, and not Due.
		{"1 every 9 by 2", "0@3:1 0@12:1", true},
		{"1 every 9 by 2", "0@3:1 0@5:1", false},
		{"1 every 9 by 2", "0@3:1 0@11:1", false},
		// Tasks that there are not.
		{"1 every 9", "1@0:1", false},
		{"1 every 9; 1 every 9", "0@0:1 1@0:1 2@0:1", false},
		{"", "0@0:1", false},
		{"", "", true},
		// At and Need at their bounds; the later jobs may need more or less than the first one.
		{"2/4 every 20", "0@0:1 0@200:4", true},
		{"2/4 every 20", "0@0:4 0@20:1 0@40:2 0@60:3", true},
		{"2/4 every 20", "0@0:5", false},
		{"2/4 every 20", "0@0:1 0@20:5", false},
		{"3 every 20", "0@0:1 0@20:2 0@40:3", true},
		{"3 every 20", "0@0:4", false},
		{"1/20 every 20; 20 every 20", "0@0:20 1@0:20", true},
	} {
		list, jobs := tasksOf(t, c.tasks), jobsOf(t, c.jobs)
		if impl.JobsValid(list, jobs) != c.valid {
			t.Errorf("JobsValid(%q, %q) = %v", c.tasks, c.jobs, !c.valid)
		}
		checkJobs(t, list, jobs)
	}
}

// TestDistancesOfJobs takes each number of ticks between two jobs of a task, for each Every.
func TestDistancesOfJobs(t *testing.T) {
	for every := 1; every <= 20; every++ {
		list := []impl.Task{plain(1, 1, 7), critical(1, 1, 1, every)}
		for first := range 201 {
			for second := max(0, first-21); second <= min(first+21, 202); second++ {
				jobs := []impl.Job{job(1, first, 1), job(1, second, 1)}
				if got, want := impl.JobsValid(list, jobs), second <= 200 && second-first >= every; got != want {
					t.Errorf("JobsValid(%s, %v) = %v", told(list), jobs, got)
				}
				checkPutJob(t, list, jobs[:1], jobs[1])
			}
		}
	}
}

// TestJobsAtTheBounds takes one job of a task at each place of some, with At and Need around their bounds.
func TestJobsAtTheBounds(t *testing.T) {
	list := tasksOf(t, "2/4 every 10 by 8; 3 every 5; 1/1 every 7; 20/20 every 20; 6 every 6")
	for at := range list {
		needs := edgesOf(1, list[at].High)
		needs = append(needs, 0, list[at].Low, list[at].Low+1)
		for _, tick := range edgesOf(0, 200) {
			for _, need := range needs {
				j := job(at, tick, need)
				checkJobs(t, list, []impl.Job{j})
				checkPutJob(t, list, nil, j)
				checkPutJob(t, list, []impl.Job{job(2, 100, 1)}, j)
			}
		}
	}
	for length := range 6 {
		for _, j := range edgeJobs() {
			checkJobs(t, list[:length], []impl.Job{j})
			checkPutJob(t, list[:length], nil, j)
		}
	}
}

// eachJobs calls f with all lists of at most so many of some jobs.
func eachJobs(kinds []impl.Job, most int, f func([]impl.Job)) {
	var grow func(jobs []impl.Job)
	grow = func(jobs []impl.Job) {
		f(slices.Clone(jobs))
		if len(jobs) == most {
			return
		}
		for _, j := range kinds {
			grow(append(jobs, j))
		}
	}
	grow(nil)
}

// someJobs returns the jobs of so many tasks that come before a tick and need at most so many ticks.
func someJobs(tasks, before, most int) []impl.Job {
	var jobs []impl.Job
	for task := range tasks {
		for at := range before {
			for need := 1; need <= most; need++ {
				jobs = append(jobs, job(task, at, need))
			}
		}
	}
	return jobs
}

func TestAllShortListsOfJobs(t *testing.T) {
	list := tasksOf(t, "1/2 every 2; 1 every 3")
	valid := 0
	eachJobs(someJobs(3, 5, 2), 3, func(jobs []impl.Job) {
		checkJobs(t, list, jobs)
		if impl.JobsValid(list, jobs) {
			valid++
		}
	})
	if valid < 100 {
		t.Errorf("only %d lists of jobs are valid", valid)
	}
	eachJobs(someJobs(2, 6, 1), 4, func(jobs []impl.Job) { checkJobs(t, list, jobs) })
}

func TestPutJob(t *testing.T) {
	for _, c := range []struct {
		tasks, jobs string
		job         impl.Job
		put         string
		ok          bool
	}{
		{"1 every 5", "", job(0, 7, 1), "0@7:1", true},
		// First, between others, and last.
		{"1/3 every 5", "0@10:1 0@20:2", job(0, 5, 3), "0@5:3 0@10:1 0@20:2", true},
		{"1/3 every 5", "0@10:1 0@20:2", job(0, 15, 3), "0@10:1 0@15:3 0@20:2", true},
		{"1/3 every 5", "0@10:1 0@20:2", job(0, 25, 3), "0@10:1 0@20:2 0@25:3", true},
		// Where others come at the same tick, in the order of their tasks.
		{"1 every 5; 1 every 5; 1 every 5", "1@4:1 2@4:1", job(0, 4, 1), "0@4:1 1@4:1 2@4:1", true},
		{"1 every 5; 1 every 5; 1 every 5", "0@4:1 2@4:1", job(1, 4, 1), "0@4:1 1@4:1 2@4:1", true},
		{"1 every 5; 1 every 5; 1 every 5", "0@4:1 1@4:1", job(2, 4, 1), "0@4:1 1@4:1 2@4:1", true},
		{"1 every 5; 1 every 5", "0@3:1 0@8:1", job(1, 3, 1), "0@3:1 1@3:1 0@8:1", true},
		// Just in time, and one tick too early, behind one of its task and before one.
		{"1 every 5", "0@10:1 0@20:1", job(0, 14, 1), "", false},
		{"1 every 5", "0@10:1 0@20:1", job(0, 16, 1), "", false},
		{"1 every 5", "0@10:1 0@19:1", job(0, 14, 1), "", false},
		{"1 every 5", "0@10:1 0@19:1", job(0, 15, 1), "", false},
		{"1 every 5", "0@10:1", job(0, 6, 1), "", false},
		{"1 every 5", "0@10:1", job(0, 10, 1), "", false},
		{"1 every 5; 1 every 20", "0@0:1 1@2:1", job(0, 4, 1), "", false},
		// A job that is none, and jobs that are not valid without it, though they would be in another order.
		{"1 every 5", "", job(1, 0, 1), "", false},
		{"1 every 5", "", job(0, 201, 1), "", false},
		{"1 every 5", "", job(0, 0, 2), "", false},
		{"1 every 5; 1 every 5", "1@0:1 0@0:1", job(0, 50, 1), "", false},
		{"1 every 5; 1 every 5", "0@5:1 0@0:1", job(1, 0, 1), "", false},
		{"1 every 5; 1 every 5", "0@0:1 0@4:1", job(1, 0, 1), "", false},
		{"", "", job(0, 0, 1), "", false},
		{"", "0@0:1", job(0, 5, 1), "", false},
	} {
		list, jobs := tasksOf(t, c.tasks), jobsOf(t, c.jobs)
		put, ok := impl.PutJob(list, jobs, c.job)
		if s := impl.FormatJobs(put); ok != c.ok || s != c.put || !ok && len(put) != 0 {
			t.Errorf("PutJob(%q, %q, %v) = %s, %v", c.tasks, c.jobs, c.job, toldJobs(put), ok)
		}
		checkPutJob(t, list, jobs, c.job)
	}
}

func TestPutJobOfAllShortLists(t *testing.T) {
	list := tasksOf(t, "1/2 every 2; 1 every 3")
	kinds := someJobs(3, 6, 1)
	put := 0
	eachJobs(kinds, 3, func(jobs []impl.Job) {
		for _, j := range kinds {
			checkPutJob(t, list, jobs, j)
			if _, ok := impl.PutJob(list, jobs, j); ok {
				put++
			}
		}
	})
	if put < 100 {
		t.Errorf("only %d jobs are put", put)
	}
	for _, j := range edgeJobs() {
		checkPutJob(t, list, []impl.Job{job(0, 0, 2), job(1, 0, 1), job(0, 100, 1)}, j)
	}
}

// TestPutJobBuildsJobs takes jobs apart, and puts them together again in other orders.
func TestPutJobBuildsJobs(t *testing.T) {
	for _, text := range []string{"1 every 1", "2/4 every 10 by 8; 1 every 5", "1 every 20; 1/3 every 19; 1 every 17; 2/4 every 13; 1 every 11"} {
		list := tasksOf(t, text)
		jobs, ok := impl.WorstJobs(list, 60, true)
		if !ok {
			t.Fatalf("%q has no worst jobs", text)
		}
		for _, step := range []int{1, 7, 11, 13, 17, 59} {
			if len(jobs)%step == 0 && step != 1 {
				continue
			}
			var built []impl.Job
			for i := range jobs {
				j := jobs[i*step%len(jobs)]
				checkPutJob(t, list, built, j)
				built, _ = impl.PutJob(list, built, j)
			}
			if !sameJobs(built, jobs) {
				t.Errorf("jobs of %q put together by steps of %d are %s", text, step, toldJobs(built))
			}
		}
		for at, j := range jobs {
			checkPutJob(t, list, slices.Delete(slices.Clone(jobs), at, at+1), j)
		}
	}
}

func TestAsManyJobsAsThereMayBe(t *testing.T) {
	list := tasksOf(t, "1 every 20; 1 every 1; 1/2 every 2")
	var jobs []impl.Job
	for tick := range 62 {
		jobs = append(jobs, job(1, tick, 1))
	}
	for length := 57; length <= 62; length++ {
		if got := impl.JobsValid(list, jobs[:length]); got != (length <= 60) {
			t.Errorf("JobsValid of %d jobs = %v", length, got)
		}
		checkJobs(t, list, jobs[:length])
		for _, j := range []impl.Job{job(1, length, 1), job(0, 0, 1), job(2, 30, 2), job(2, 200, 1), job(1, 200, 1)} {
			if put, ok := impl.PutJob(list, jobs[:length], j); ok != (length < 60) || ok && len(put) != length+1 || !ok && len(put) != 0 {
				t.Errorf("PutJob of %v to %d jobs = %s, %v", j, length, toldJobs(put), ok)
			}
			checkPutJob(t, list, jobs[:length], j)
		}
	}
	// Sixty jobs of which each second one needs more than its low need, and one more.
	var high []impl.Job
	var places []int
	for i := range 61 {
		high = append(high, job(2, 2*i, i%2+1))
		if i%2 == 1 {
			places = append(places, i)
		}
	}
	if got := impl.HighJobs(list, high[:60]); !slices.Equal(got, places) {
		t.Errorf("HighJobs of sixty jobs = %v", got)
	}
	if got := impl.HighJobs(list, high); len(got) != 0 {
		t.Errorf("HighJobs of too many jobs = %v", got)
	}
	checkJobs(t, list, high)
	if n := impl.NeedOf(high[:60], 2); n != 90 {
		t.Errorf("NeedOf sixty jobs = %d", n)
	}
	if n := impl.NeedOf(high, 2); n != 0 {
		t.Errorf("NeedOf too many jobs = %d", n)
	}
	checkNoMoreThanSixty(t)
}

// checkNoMoreThanSixty checks that jobs that are by far too many are refused.
func checkNoMoreThanSixty(t *testing.T) {
	t.Helper()
	list := tasksOf(t, "1 every 1")
	many := make([]impl.Job, 100000)
	for i := range many {
		many[i] = job(0, min(i, 200), 1)
	}
	if impl.JobsValid(list, many) || len(impl.HighJobs(list, many)) != 0 || impl.NeedOf(many, 0) != 0 {
		t.Error("100000 jobs are accepted")
	}
	if put, ok := impl.PutJob(list, many, job(0, 0, 1)); ok || len(put) != 0 {
		t.Error("PutJob accepts 100000 jobs")
	}
}

func TestWorstJobs(t *testing.T) {
	for _, c := range []struct {
		tasks     string
		until     int
		low, high string
	}{
		{"2/4 every 10 by 8; 1 every 5", 0, "", ""},
		{"2/4 every 10 by 8; 1 every 5", 1, "0@0:2 1@0:1", "0@0:4 1@0:1"},
		{"2/4 every 10 by 8; 1 every 5", 5, "0@0:2 1@0:1", "0@0:4 1@0:1"},
		{"2/4 every 10 by 8; 1 every 5", 6, "0@0:2 1@0:1 1@5:1", "0@0:4 1@0:1 1@5:1"},
		{"2/4 every 10 by 8; 1 every 5", 11, "0@0:2 1@0:1 1@5:1 0@10:2 1@10:1", "0@0:4 1@0:1 1@5:1 0@10:4 1@10:1"},
		{"1 every 5; 2/4 every 10 by 8", 11, "0@0:1 1@0:2 0@5:1 0@10:1 1@10:2", "0@0:1 1@0:4 0@5:1 0@10:1 1@10:4"},
		{"1/2 every 3; 1/1 every 2; 3 every 4", 7, "0@0:1 1@0:1 2@0:3 1@2:1 0@3:1 1@4:1 2@4:3 0@6:1 1@6:1", "0@0:2 1@0:1 2@0:3 1@2:1 0@3:2 1@4:1 2@4:3 0@6:2 1@6:1"},
		{"1/20 every 20", 200, "0@0:1 0@20:1 0@40:1 0@60:1 0@80:1 0@100:1 0@120:1 0@140:1 0@160:1 0@180:1",
			"0@0:20 0@20:20 0@40:20 0@60:20 0@80:20 0@100:20 0@120:20 0@140:20 0@160:20 0@180:20"},
		{"", 200, "", ""},
	} {
		list := tasksOf(t, c.tasks)
		for _, high := range []bool{false, true} {
			want := c.low
			if high {
				want = c.high
			}
			jobs, ok := impl.WorstJobs(list, c.until, high)
			if s := impl.FormatJobs(jobs); !ok || s != want {
				t.Errorf("WorstJobs(%q, %d, %v) = %q, %v, not %q", c.tasks, c.until, high, s, ok, want)
			}
		}
		checkWorst(t, list, c.until)
	}
}

// TestMostWorstJobs takes tasks with just as many worst jobs as there may be, and with more.
func TestMostWorstJobs(t *testing.T) {
	for _, c := range []struct {
		tasks string
		most  int
	}{
		{"1 every 1", 60},
		{"1/1 every 1", 60},
		{"1 every 2", 120},
		{"1/2 every 3", 180},
		// There are just 60 before the last tick, and more at it.
		{"1 every 2; 1 every 2", 60},
		{"1 every 1; 1 every 20", 57},
		{"1 every 1; 1 every 1; 1 every 1; 1 every 1; 1 every 1", 12},
		{"1 every 2; 1 every 3; 1 every 6", 60},
		{"1 every 20; 1 every 20; 1 every 20; 1 every 20; 1 every 20", 200},
		{"1 every 4", 200},
		{"", 200},
	} {
		list := tasksOf(t, c.tasks)
		for _, high := range []bool{false, true} {
			if jobs, ok := impl.WorstJobs(list, c.most, high); !ok || len(jobs) > 60 {
				t.Errorf("WorstJobs(%q, %d, %v) = %s, %v", c.tasks, c.most, high, toldJobs(jobs), ok)
			}
			if jobs, ok := impl.WorstJobs(list, c.most+1, high); ok || len(jobs) != 0 {
				t.Errorf("WorstJobs(%q, %d, %v) = %s, %v", c.tasks, c.most+1, high, toldJobs(jobs), ok)
			}
		}
		for until := -1; until <= 202; until++ {
			checkWorst(t, list, until)
		}
	}
}

func TestWorstJobsOfAllTasks(t *testing.T) {
	untils := []int{-1, 0, 1, 2, 59, 60, 61, 199, 200, 201, 1 << 32, -1 << 32, math.MaxInt, math.MinInt}
	for _, x := range allTasks() {
		for _, until := range untils {
			checkWorst(t, []impl.Task{x}, until)
		}
	}
	all := allTasks()
	for i := range 3000 {
		var list []impl.Task
		for k := range i%5 + 1 {
			list = append(list, all[(i*7919+k*k*631+k*97+i/7*k)%len(all)])
		}
		for _, until := range append(untils, i%202, list[0].Every, list[0].Every+1) {
			checkWorst(t, list, until)
		}
	}
}

// TestWorstJobsComeAsSoonAsTheyMay checks that no job could come a tick earlier, and no other one before until.
func TestWorstJobsComeAsSoonAsTheyMay(t *testing.T) {
	for _, text := range []string{"1 every 7", "2/4 every 10 by 8; 1 every 5", "1/2 every 3; 1 every 4 by 2; 2 every 20"} {
		list := tasksOf(t, text)
		jobs, ok := impl.WorstJobs(list, 30, false)
		if !ok || !impl.JobsValid(list, jobs) {
			t.Fatalf("WorstJobs(%q) = %v, %v", text, jobs, ok)
		}
		for at := range jobs {
			rest := slices.Delete(slices.Clone(jobs), at, at+1)
			earlier := jobs[at]
			earlier.At--
			if put, ok := impl.PutJob(list, rest, earlier); ok {
				t.Errorf("PutJob(%q) puts %v a tick earlier: %v", text, jobs[at], put)
			}
		}
		for place := range list {
			for at := range 30 {
				if put, ok := impl.PutJob(list, jobs, job(place, at, 1)); ok {
					t.Errorf("PutJob(%q) puts one more job: %v", text, put)
				}
			}
		}
	}
}

func TestDueAt(t *testing.T) {
	list := tasksOf(t, "2/4 every 10 by 8; 3 every 5; 20/20 every 20; 1 every 20 by 1")
	for _, c := range []struct {
		job impl.Job
		due int
		ok  bool
	}{
		{job(0, 0, 1), 8, true},
		{job(0, 10, 4), 18, true},
		{job(0, 200, 2), 208, true},
		{job(0, 3, 5), 0, false},
		{job(0, 3, 0), 0, false},
		{job(0, -1, 1), 0, false},
		{job(0, 201, 1), 0, false},
		{job(1, 7, 3), 12, true},
		{job(1, 7, 4), 0, false},
		{job(2, 200, 20), 220, true},
		{job(3, 0, 1), 1, true},
		{job(3, 0, 2), 0, false},
		{job(4, 0, 1), 0, false},
		{job(-1, 0, 1), 0, false},
		{job(math.MaxInt, 0, 1), 0, false},
		{job(0, math.MaxInt, 1), 0, false},
		{job(0, 0, math.MaxInt), 0, false},
		{impl.Job{}, 0, false},
	} {
		if due, ok := impl.DueAt(list, c.job); due != c.due || ok != c.ok {
			t.Errorf("DueAt(%v) = %d, %v", c.job, due, ok)
		}
	}
	for task := range 4 {
		for at := -1; at <= 201; at++ {
			for need := -1; need <= 21; need++ {
				checkDue(t, list, job(task, at, need))
			}
		}
	}
	for _, x := range allTasks() {
		for _, at := range []int{0, 77, 200, 201} {
			checkDue(t, []impl.Task{x}, job(0, at, x.High))
			checkDue(t, []impl.Task{plain(9, 9, 9), x}, job(1, at, 1))
			checkDue(t, []impl.Task{x, plain(20, 20, 20)}, job(0, at, x.High+1))
		}
	}
}

func TestHighJobs(t *testing.T) {
	for _, c := range []struct {
		tasks, jobs string
		places      []int
	}{
		{"2/4 every 10 by 8; 1 every 5", "0@0:2 1@0:1 1@5:1 0@10:4", []int{3}},
		{"2/4 every 10", "0@0:1 0@10:2 0@20:3 0@30:4", []int{2, 3}},
		{"2/4 every 10", "0@0:4 0@10:1 0@20:3 0@30:2", []int{0, 2}},
		{"2/2 every 10; 2 every 10", "0@0:2 1@0:2", nil},
		{"4 every 10; 2/4 every 10; 3/4 every 10", "0@0:4 1@0:4 2@0:3 0@10:4 1@10:2 2@10:4", []int{1, 5}},
		// Jobs that are not valid are told nothing.
		{"2/4 every 10", "0@0:4 0@9:4", nil},
		{"2/4 every 10", "0@0:4 0@10:5", nil},
		{"2/4 every 10", "0@10:4 0@0:4", nil},
		{"2/4 every 10", "0@0:4 1@0:4", nil},
		{"", "0@0:4", nil},
		{"2/4 every 10", "", nil},
	} {
		list, jobs := tasksOf(t, c.tasks), jobsOf(t, c.jobs)
		if places := impl.HighJobs(list, jobs); !slices.Equal(places, c.places) {
			t.Errorf("HighJobs(%q, %q) = %v, not %v", c.tasks, c.jobs, places, c.places)
		}
		checkJobs(t, list, jobs)
	}
	// All worst jobs with high needs are high where the needs differ, and none with low ones.
	for _, x := range allTasks() {
		list := []impl.Task{plain(1, 5, 5), x}
		low, _ := impl.WorstJobs(list, 15, false)
		high, _ := impl.WorstJobs(list, 15, true)
		checkJobs(t, list, low)
		checkJobs(t, list, high)
		if places := impl.HighJobs(list, low); len(places) != 0 {
			t.Errorf("HighJobs(%s, %v) = %v", told(list), low, places)
		}
		if places := impl.HighJobs(list, high); x.High == x.Low && len(places) != 0 || x.High > x.Low && len(places) != len(high)-3 {
			t.Errorf("HighJobs(%s, %v) = %v", told(list), high, places)
		}
	}
}

func TestNeedOf(t *testing.T) {
	for _, c := range []struct {
		jobs  []impl.Job
		needs [5]int
	}{
		{nil, [5]int{}},
		{[]impl.Job{job(0, 0, 2), job(1, 0, 1), job(0, 10, 4)}, [5]int{6, 1}},
		{[]impl.Job{job(4, 200, 20)}, [5]int{4: 20}},
		// They need be in no order, and of no tasks.
		{[]impl.Job{job(3, 9, 5), job(3, 9, 5), job(2, 0, 1), job(3, 1, 7)}, [5]int{2: 1, 3: 17}},
		{slices.Repeat([]impl.Job{job(1, 200, 20)}, 60), [5]int{1: 1200}},
		{slices.Repeat([]impl.Job{job(1, 200, 20)}, 61), [5]int{}},
		// One that has no text.
		{[]impl.Job{job(0, 0, 2), {}}, [5]int{}},
		{[]impl.Job{job(0, 0, 2), job(0, 0, 21)}, [5]int{}},
		{[]impl.Job{job(0, 0, 2), job(0, 0, -1)}, [5]int{}},
		{[]impl.Job{job(0, 0, 2), job(5, 0, 1)}, [5]int{}},
		{[]impl.Job{job(5, 0, 1)}, [5]int{}},
		{[]impl.Job{job(-1, 0, 1), job(0, 0, 2)}, [5]int{}},
		{[]impl.Job{job(0, 201, 2)}, [5]int{}},
		{[]impl.Job{job(0, -1, 2)}, [5]int{}},
		{[]impl.Job{job(0, 0, math.MaxInt), job(0, 0, 1)}, [5]int{}},
	} {
		for task, need := range c.needs {
			if n := impl.NeedOf(c.jobs, task); n != need {
				t.Errorf("NeedOf(%s, %d) = %d, not %d", toldJobs(c.jobs), task, n, need)
			}
		}
		checkTextAndNeeds(t, c.jobs)
	}
}

func TestInvalidListsHaveNoJobs(t *testing.T) {
	for _, list := range invalidLists() {
		checkNoJobs(t, list)
	}
	// Each task that is not valid, alone and beside ones that are.
	for _, bad := range invalidTasks() {
		checkNoJobs(t, []impl.Task{bad})
		checkNoJobs(t, []impl.Task{bad, plain(5, 10, 10)})
		checkNoJobs(t, []impl.Task{plain(5, 10, 10), bad})
	}
	for length := 6; length <= 8; length++ {
		checkNoJobs(t, slices.Repeat([]impl.Task{plain(1, 20, 20)}, length))
	}
}

// checkJobsApart checks that a function of tasks and jobs changes neither of them nor what lies behind them, and that its
// result shares memory with neither them nor another result, unused capacity included.
func checkJobsApart(t *testing.T, name string, list []impl.Task, jobs []impl.Job, f func([]impl.Task, []impl.Job) []impl.Job) {
	t.Helper()
	behind := job(-3, -3, -3)
	memory := slices.Concat([]impl.Job{behind}, jobs, slices.Repeat([]impl.Job{behind}, 8))
	before := slices.Clone(memory)
	argument := memory[1 : 1+len(jobs)]
	first := f(list, argument)
	want := slices.Clone(first)
	overwriteJobs(f(list, argument))
	if !sameJobs(first, want) {
		t.Errorf("%s(%s, %s): two results share memory", name, told(list), toldJobs(jobs))
	}
	overwriteJobs(first)
	if !sameJobs(memory, before) {
		t.Errorf("%s(%s, %s) changes the jobs, the memory behind them, or returns it", name, told(list), toldJobs(jobs))
	}
	if again := f(list, argument); !sameJobs(again, want) {
		t.Errorf("%s(%s, %s) = %s after its results were overwritten", name, told(list), toldJobs(jobs), toldJobs(again))
	}
	// Without room behind them, the jobs could be given back themselves.
	clipped := slices.Clip(slices.Clone(jobs))
	overwriteJobs(f(list, clipped))
	if !sameJobs(clipped, jobs) {
		t.Errorf("%s(%s, %s) returns memory of the jobs", name, told(list), toldJobs(jobs))
	}
	checkUnchanged(t, name, list, func(list []impl.Task) { f(list, jobs) })
}

// overwriteJobs fills a result, and its unused capacity.
func overwriteJobs(jobs []impl.Job) {
	jobs = jobs[:cap(jobs)]
	for i := range jobs {
		jobs[i] = job(-7, -7, -7)
	}
}

// checkPlacesApart checks that two results of HighJobs share no memory.
func checkPlacesApart(t *testing.T, list []impl.Task, jobs []impl.Job) {
	t.Helper()
	first := impl.HighJobs(list, jobs)
	want := slices.Clone(first)
	second := impl.HighJobs(list, jobs)
	second = second[:cap(second)]
	for i := range second {
		second[i] = -7
	}
	if again := impl.HighJobs(list, jobs); !slices.Equal(first, want) || !slices.Equal(again, want) {
		t.Errorf("HighJobs(%s, %s): two results share memory", told(list), toldJobs(jobs))
	}
}

func TestFunctionsOfJobsKeepTheirArguments(t *testing.T) {
	none := func(f func([]impl.Task, []impl.Job)) func([]impl.Task, []impl.Job) []impl.Job {
		return func(list []impl.Task, jobs []impl.Job) []impl.Job {
			f(list, jobs)
			return nil
		}
	}
	lists := [][]impl.Task{nil, tasksOf(t, "2/4 every 10 by 8; 1 every 5"), tasksOf(t, "1 every 1"), someTasks(3), someTasks(5), someTasks(6), {plain(1, 4, 4), {}}}
	texts := []string{"", "0@0:1", "0@0:2 1@0:1 1@5:1 0@10:4", "0@0:1 1@0:1 2@0:1", "1@0:1 0@0:1", "0@0:4 0@9:4", "0@10:1 0@0:1"}
	for _, list := range lists {
		many := slices.Repeat([]impl.Job{job(0, 0, 1)}, 61)
		worst, _ := impl.WorstJobs(tasksOf(t, "1 every 1"), 60, false)
		kinds := [][]impl.Job{worst, worst[:59], many, manyJobs(20), {{}}}
		for _, text := range texts {
			kinds = append(kinds, jobsOf(t, text))
		}
		for _, jobs := range kinds {
			for _, j := range []impl.Job{job(0, 0, 1), job(0, 20, 1), job(1, 5, 1), job(0, 200, 1), job(2, 0, 1), job(0, 201, 1), {}} {
				checkJobsApart(t, "PutJob", list, jobs, func(list []impl.Task, jobs []impl.Job) []impl.Job {
					put, _ := impl.PutJob(list, jobs, j)
					return put
				})
				checkUnchanged(t, "DueAt", list, func(list []impl.Task) { impl.DueAt(list, j) })
			}
			checkJobsApart(t, "JobsValid", list, jobs, none(func(list []impl.Task, jobs []impl.Job) { impl.JobsValid(list, jobs) }))
			checkJobsApart(t, "HighJobs", list, jobs, none(func(list []impl.Task, jobs []impl.Job) { impl.HighJobs(list, jobs) }))
			checkJobsApart(t, "FormatJobs", list, jobs, none(func(_ []impl.Task, jobs []impl.Job) { impl.FormatJobs(jobs) }))
			checkJobsApart(t, "NeedOf", list, jobs, none(func(_ []impl.Task, jobs []impl.Job) { impl.NeedOf(jobs, 0) }))
			checkPlacesApart(t, list, jobs)
		}
	}
}

func TestResultsOfParseJobsAndWorstJobsShareNothing(t *testing.T) {
	for length := range 61 {
		text := impl.FormatJobs(manyJobs(length))
		checkJobsApart(t, "ParseJobs", nil, nil, func([]impl.Task, []impl.Job) []impl.Job {
			jobs, _ := impl.ParseJobs(text)
			return jobs
		})
	}
	for _, list := range [][]impl.Task{nil, tasksOf(t, "2/4 every 10 by 8; 1 every 5"), someTasks(5), someTasks(6)} {
		for _, until := range []int{-1, 0, 1, 13, 60, 201} {
			for _, high := range []bool{false, true} {
				checkJobsApart(t, "WorstJobs", list, nil, func(list []impl.Task, _ []impl.Job) []impl.Job {
					jobs, _ := impl.WorstJobs(list, until, high)
					return jobs
				})
			}
		}
	}
}
