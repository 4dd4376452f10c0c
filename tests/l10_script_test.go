package tests

import (
	"fmt"
	"regexp"
	"slices"
	"strconv"
	"strings"
	"sync"
	"testing"

	"loop.example/dualmodes/impl"
)

// reader is the interpreter as the document tells it, apart from the program: it is changed by each line.
type reader struct {
	list   []impl.Task
	jobs   []impl.Job
	policy int
}

// wantScript finds the output of a script.
func wantScript(script string) string {
	if len(script) >= 20001 {
		return "long\n"
	}
	r, output, preceding := &reader{}, "", 0
	for line := range strings.Lines(script) {
		line = strings.TrimSuffix(line, "\n")
		if line != "" && (preceding > 199 || len(output) > 40000) {
			return output + "full\n"
		}
		if line != "" {
			output += r.read(line)
		}
		preceding++
	}
	return output
}

// numbered are the lines with a number.
var numbered = regexp.MustCompile(`^(leave|raise|rule|worst|run|high|pack) (0|-?[1-9][0-9]{0,16})$`)

// read finds the output of a line, and what it changes.
func (r *reader) read(line string) string {
	if m := numbered.FindStringSubmatch(line); m != nil {
		n, _ := strconv.Atoi(m[2])
		return r.readNumbered(m[1], n)
	}
	if rest, ok := strings.CutPrefix(line, "tasks "); ok {
		list, ok := wantSet(tasksByText(), rest)
		return r.set(list, ok, "what\n")
	}
	if rest, ok := strings.CutPrefix(line, "admit "); ok {
		x, ok := tasksByText()[rest]
		if !ok {
			return "what\n"
		}
		list, ok := wantAdmitted(r.list, x, r.policy)
		return r.set(list, ok, "no\n")
	}
	if rest, ok := strings.CutPrefix(line, "jobs "); ok {
		jobs, ok := readJobs(rest)
		return r.expect(jobs, ok && wantJobs(r.list, jobs))
	}
	return r.readWord(line)
}

func (r *reader) readNumbered(word string, n int) string {
	list, ok := []impl.Task{}, false
	switch word {
	case "leave":
		list, ok = wantLeft(r.list, n)
		return r.set(list, ok, "no\n")
	case "raise":
		list, ok = wantRaised(r.list, n)
		return r.set(list, ok, "no\n")
	case "rule", "worst":
		jobs, ok := wantWorst(r.list, n, word == "worst")
		return r.expect(jobs, ok)
	case "high":
		high, _ := wantMost(r.list, n, r.policy)
		return wordAnd("high", high)
	case "pack":
		return r.pack(n)
	}
	run, ok := wantRun(r.list, r.jobs, r.policy, n)
	if !ok {
		return "what\n"
	}
	dropped := []int{}
	for at, ended := range run.Ended {
		if ended == -2 {
			dropped = append(dropped, at)
		}
	}
	return "trace " + wantTrace(run.Trace) + "\n" + strings.ReplaceAll(
		"switches "+numbers(run.Switches)+"\nlate "+numbers(wantMisses(r.list, r.jobs, run))+"\ndropped "+numbers(dropped)+"\n", " \n", "\n")
}

func (r *reader) readWord(line string) string {
	switch line {
	case "sort":
		sorted := slices.Clone(r.list)
		slices.SortStableFunc(sorted, func(a, b impl.Task) int { return (a.Due-b.Due)*100 + a.Every - b.Every })
		return r.set(sorted, true, "")
	case "assign":
		orders := wantOrders(r.list)
		if len(orders) == 0 {
			return "no\n"
		}
		return r.set(picked(r.list, wantAssigned(orders)), true, "")
	case "places":
		r.policy = 0
		return "ok\n"
	case "deadlines":
		r.policy = 1
		return "ok\n"
	case "show":
		text, _ := wantText(r.jobs)
		return textOfTasks(r.list) + "\n" + text + "\n"
	case "holds":
		return "holds " + map[bool]string{true: "yes", false: "no"}[wantHoldsBy(r.list, r.policy)] + "\n"
	case "responses":
		return r.responses()
	case "shares":
		l := loadsOf(r.list)
		return "shares " + l.a.RatString() + " " + l.b.RatString() + " " + l.h.RatString() + "\n"
	case "factor":
		if x := wantFactor(r.list); x != nil {
			return "factor " + x.RatString() + "\n"
		}
		return "none\n"
	case "fewest":
		return wordAnd("fewest", wantFewest(r.list, r.policy))
	}
	return "what\n"
}

// set changes the tasks, or says something else.
func (r *reader) set(list []impl.Task, ok bool, otherwise string) string {
	if !ok {
		return otherwise
	}
	r.list, r.jobs = list, nil
	return textOfTasks(list) + "\n"
}

func (r *reader) expect(jobs []impl.Job, ok bool) string {
	if !ok {
		return "what\n"
	}
	r.jobs = jobs
	return "ok\n"
}

func (r *reader) responses() string {
	told := ""
	for at := range r.list {
		told += strconv.Itoa(at)
		if w := wantLow(r.list, at); w != none {
			told += fmt.Sprint(" low ", w)
		}
		if w := wantSwitch(r.list, at); w != none {
			told += fmt.Sprint(" switch ", w)
		}
		told += "\n"
	}
	return told + "end\n"
}

func (r *reader) pack(processors int) string {
	if !between(1, processors, 3) {
		return "none\n"
	}
	where := newGroups(r.list, r.policy).first(processors)
	if where == nil {
		return "none\n"
	}
	return wantWay(r.list, where) + "end\n"
}

// wordAnd writes a word and a number, if there is one.
func wordAnd(word string, n int) string {
	if n == none {
		return "none\n"
	}
	return fmt.Sprint(word, " ", n, "\n")
}

// wantFewest finds the least number of processors on which valid tasks can hold, by trying all ways.
func wantFewest(list []impl.Task, policy int) int {
	g := newGroups(list, policy)
	for processors := 1; processors <= 3; processors++ {
		for _, where := range sequencesOf(len(list), processors) {
			if g.all(where, processors) {
				return processors
			}
		}
	}
	return none
}

// readJobs reads the text of jobs, apart from the program.
func readJobs(s string) ([]impl.Job, bool) {
	var jobs []impl.Job
	for text := range strings.SplitSeq(s, " ") {
		j, ok := jobsByText()[text]
		if !ok {
			return nil, s == ""
		}
		jobs = append(jobs, j)
	}
	return jobs, len(jobs) <= 60
}

// checkScript checks the output of a script, and returns it.
func checkScript(t *testing.T, script string) string {
	t.Helper()
	got, want := impl.RunScript(script), wantScript(script)
	if got != want {
		t.Errorf("RunScript(%.1000q) = %.1000q, not %.1000q", script, got, want)
	}
	return got
}

// checkTalk checks lines and what they say, in turn; what a line says is told without the newline at its end.
func checkTalk(t *testing.T, talk ...string) {
	t.Helper()
	script, want := "", ""
	for pair := range slices.Chunk(talk, 2) {
		script += pair[0] + "\n"
		want += pair[1] + "\n"
		if got := impl.RunScript(script); got != want {
			t.Errorf("RunScript(%q) = %q, not %q", script, got, want)
			return
		}
	}
	checkScript(t, script)
}

// scriptOf joins lines, each with a newline behind it.
func scriptOf(lines ...string) string { return strings.Join(lines, "\n") + "\n" }

func TestLimitsOfScripts(t *testing.T) {
	if impl.MaxScript != 20000 || impl.MaxLines != 200 || impl.MaxOutput != 40000 {
		t.Errorf("the limits of scripts are %d, %d and %d", impl.MaxScript, impl.MaxLines, impl.MaxOutput)
	}
}

func TestScriptOfTheExample(t *testing.T) {
	checkTalk(t,
		"admit 3 every 12", "3 every 12",
		"admit 1 every 4 by 2", "1 every 4 by 2; 3 every 12",
		"admit 2/3 every 8", "1 every 4 by 2; 3 every 12; 2/3 every 8",
		"responses", "0 low 1\n1 low 4\n2 low 7 switch 8\nend",
		"shares", "shares 1/2 1/4 3/8",
		"worst 12", "ok",
		"run 12", "trace 011102220222\nswitches 7 11\nlate\ndropped",
		"jobs 0@0:1 1@0:2 2@0:3", "ok",
		"run 8", "trace 011222..\nswitches 5\nlate\ndropped",
		"high 2", "high 3",
		"admit 4 every 6", "no",
		"tasks 5 every 10; 2/6 every 10", "5 every 10; 2/6 every 10",
		"deadlines", "ok",
		"factor", "factor 2/5",
		"holds", "holds yes",
		"worst 10", "ok",
		"run 8", "trace 111111..\nswitches 2\nlate\ndropped 0",
		"fewest", "fewest 1",
		"leave 1", "5 every 10",
		"show", "5 every 10\n",
	)
}

func TestLinesThatSetTasks(t *testing.T) {
	checkTalk(t,
		"tasks 2/4 every 10 by 8; 3 every 5; 1 every 8", "2/4 every 10 by 8; 3 every 5; 1 every 8",
		"sort", "3 every 5; 1 every 8; 2/4 every 10 by 8",
		"sort", "3 every 5; 1 every 8; 2/4 every 10 by 8",
		"leave 3", "no",
		"leave -1", "no",
		"leave 99999999999999999", "no",
		"leave -99999999999999999", "no",
		"leave 1", "3 every 5; 2/4 every 10 by 8",
		"raise 3", "no",
		"raise 2", "5 every 5; 4/6 every 10 by 8",
		"raise 1", "no",
		"raise 0", "5 every 5; 4/6 every 10 by 8",
		"raise -4", "no",
		"raise -3", "2 every 5; 1/3 every 10 by 8",
		"raise -1", "no",
		"raise 99999999999999999", "no",
		"raise -99999999999999999", "no",
		"leave 0", "1/3 every 10 by 8",
		"leave 1", "no",
		"leave 0", "",
		"leave 0", "no",
		"tasks 20 every 20; 1/1 every 1; 1/20 every 20; 1 every 20 by 1; 3/4 every 9 by 7", "20 every 20; 1/1 every 1; 1/20 every 20; 1 every 20 by 1; 3/4 every 9 by 7",
		"tasks ", "",
		"raise 20", "",
		"raise 21", "no",
		"raise -20", "",
		"raise -21", "no",
	)
}

func TestLinesThatAdmitTasks(t *testing.T) {
	checkTalk(t,
		"admit 3 every 12", "3 every 12",
		"admit 1 every 4 by 2", "1 every 4 by 2; 3 every 12",
		"admit 4 every 4", "no",
		"admit 1 every 20 by 1", "1 every 20 by 1; 1 every 4 by 2; 3 every 12",
		"admit 1/3 every 20", "1 every 20 by 1; 1 every 4 by 2; 3 every 12; 1/3 every 20",
		"admit 1 every 20", "1 every 20 by 1; 1 every 4 by 2; 3 every 12; 1/3 every 20; 1 every 20",
		"admit 1 every 20", "no",
		"show", "1 every 20 by 1; 1 every 4 by 2; 3 every 12; 1/3 every 20; 1 every 20\n",
		// No task is admitted beside ones that do not hold as they stand.
		"tasks 3 every 12; 1 every 4 by 2", "3 every 12; 1 every 4 by 2",
		"admit 1 every 20", "no",
		"assign", "1 every 4 by 2; 3 every 12",
		"admit 1 every 20", "1 every 4 by 2; 3 every 12; 1 every 20",
		"deadlines", "ok",
		"admit 1 every 20", "no",
		"tasks ", "",
		"admit 5 every 10", "5 every 10",
		"admit 1 every 10 by 9", "no",
		"admit 2/6 every 10", "5 every 10; 2/6 every 10",
		"admit 4 every 10", "no",
		"admit 1 every 10", "5 every 10; 2/6 every 10; 1 every 10",
		"show", "5 every 10; 2/6 every 10; 1 every 10\n",
	)
}

func TestLinesThatAssignOrders(t *testing.T) {
	checkTalk(t,
		"tasks 3 every 12; 1 every 4 by 2", "3 every 12; 1 every 4 by 2",
		"holds", "holds no",
		"assign", "1 every 4 by 2; 3 every 12",
		"holds", "holds yes",
		"assign", "1 every 4 by 2; 3 every 12",
		"tasks 4 every 20 by 10; 3 every 20 by 6; 2 every 20 by 3; 1 every 20 by 1", "4 every 20 by 10; 3 every 20 by 6; 2 every 20 by 3; 1 every 20 by 1",
		"assign", "1 every 20 by 1; 2 every 20 by 3; 3 every 20 by 6; 4 every 20 by 10",
		"tasks 2 every 4; 3 every 6", "2 every 4; 3 every 6",
		"assign", "no",
		"show", "2 every 4; 3 every 6\n",
		// The policy does not count.
		"deadlines", "ok",
		"assign", "no",
		"tasks 3 every 12; 1 every 4 by 2", "3 every 12; 1 every 4 by 2",
		"assign", "1 every 4 by 2; 3 every 12",
	)
}

func TestLinesThatSetJobs(t *testing.T) {
	checkTalk(t,
		"tasks 2/4 every 10 by 8; 1 every 5", "2/4 every 10 by 8; 1 every 5",
		"jobs 0@0:2 1@0:1 0@10:4", "ok",
		"show", "2/4 every 10 by 8; 1 every 5\n0@0:2 1@0:1 0@10:4",
		"jobs 1@200:1", "ok",
		"show", "2/4 every 10 by 8; 1 every 5\n1@200:1",
		// These are no texts of jobs, or no jobs of the tasks.
		"jobs 1@201:1", "what",
		"jobs 2@0:1", "what",
		"jobs 1@0:2", "what",
		"jobs 0@0:5", "what",
		"jobs 0@0:0", "what",
		"jobs 1@0:1 0@0:1", "what",
		"jobs 0@1:1 1@0:1", "what",
		"jobs 0@0:1 0@0:1", "what",
		"jobs 0@0:1 0@9:1", "what",
		"jobs 0@0:1  0@10:1", "what",
		"jobs 0@0:01", "what",
		"jobs 0@0", "what",
		"jobs none", "what",
		"show", "2/4 every 10 by 8; 1 every 5\n1@200:1",
		"jobs ", "ok",
		"show", "2/4 every 10 by 8; 1 every 5\n",
		// The needs are low ones as a rule, and high ones at worst.
		"rule 6", "ok",
		"show", "2/4 every 10 by 8; 1 every 5\n0@0:2 1@0:1 1@5:1",
		"worst 6", "ok",
		"show", "2/4 every 10 by 8; 1 every 5\n0@0:4 1@0:1 1@5:1",
		"rule 5", "ok",
		"show", "2/4 every 10 by 8; 1 every 5\n0@0:2 1@0:1",
		"worst 1", "ok",
		"show", "2/4 every 10 by 8; 1 every 5\n0@0:4 1@0:1",
		"rule -1", "what",
		"rule 201", "what",
		"rule 99999999999999999", "what",
		"worst -1", "what",
		"worst 201", "what",
		"worst -99999999999999999", "what",
		"show", "2/4 every 10 by 8; 1 every 5\n0@0:4 1@0:1",
		"rule 0", "ok",
		"show", "2/4 every 10 by 8; 1 every 5\n",
		"worst 5", "ok",
		"worst 0", "ok",
		"show", "2/4 every 10 by 8; 1 every 5\n",
	)
	// There are 60 jobs before the tick 200, and one more.
	for _, word := range []string{"rule", "worst"} {
		checkTalk(t,
			"tasks 1 every 10; 1 every 5", "1 every 10; 1 every 5",
			word+" 200", "ok",
			"tasks 1 every 10; 1 every 5; 1 every 20", "1 every 10; 1 every 5; 1 every 20",
			word+" 170", "ok",
			word+" 171", "what",
			word+" 200", "what",
			"run 1", "trace 0\nswitches\nlate\ndropped",
		)
	}
}

func TestLinesThatTellWhetherTasksHold(t *testing.T) {
	checkTalk(t,
		"tasks 1 every 4; 2/3 every 6", "1 every 4; 2/3 every 6",
		"holds", "holds yes",
		"responses", "0 low 1\n1 low 3 switch 4\nend",
		"shares", "shares 1/4 1/3 1/2",
		"factor", "factor 1",
		"tasks 5 every 10; 2/6 every 10", "5 every 10; 2/6 every 10",
		"holds", "holds no",
		"responses", "0 low 5\n1 low 7\nend",
		"shares", "shares 1/2 1/5 3/5",
		"factor", "factor 2/5",
		"deadlines", "ok",
		"holds", "holds yes",
		"responses", "0 low 5\n1 low 7\nend",
		"shares", "shares 1/2 1/5 3/5",
		"factor", "factor 2/5",
		"tasks 5 every 10; 2/9 every 10", "5 every 10; 2/9 every 10",
		"factor", "factor 2/5",
		"holds", "holds no",
		"tasks 20 every 20; 1/1 every 1", "20 every 20; 1/1 every 1",
		"shares", "shares 1 1 1",
		"factor", "none",
	)
}

func TestResponsesThatThereAreNot(t *testing.T) {
	checkTalk(t,
		// Neither has one, only the low one has, and both have.
		"tasks 3 every 5; 2/3 every 4; 1/6 every 10; 1/6 every 10 by 9; 1 every 20", "3 every 5; 2/3 every 4; 1/6 every 10; 1/6 every 10 by 9; 1 every 20",
		"responses", "0 low 3\n1\n2\n3\n4\nend",
		"tasks 3 every 12; 1 every 4 by 2; 1/7 every 12; 2/8 every 20", "3 every 12; 1 every 4 by 2; 1/7 every 12; 2/8 every 20",
		"responses", "0 low 3\n1\n2 low 6 switch 12\n3 low 8\nend",
		"tasks 5/5 every 5; 1/5 every 5; 1 every 5", "5/5 every 5; 1/5 every 5; 1 every 5",
		"responses", "0 low 5 switch 5\n1\n2\nend",
		"deadlines", "ok",
		"responses", "0 low 5 switch 5\n1\n2\nend",
	)
}

func TestLinesThatRun(t *testing.T) {
	checkTalk(t,
		"tasks 1 every 4; 2/3 every 6; 1 every 6", "1 every 4; 2/3 every 6; 1 every 6",
		"jobs 0@0:1 1@0:3 2@0:1", "ok",
		"run 0", "trace \nswitches\nlate\ndropped",
		"run 1", "trace 0\nswitches\nlate\ndropped",
		"run 3", "trace 011\nswitches 3\nlate\ndropped 2",
		"run 5", "trace 0111.\nswitches 3\nlate\ndropped 2",
		"run -1", "what",
		"run 201", "what",
		"run 99999999999999999", "what",
		"run 200", "trace 0111"+strings.Repeat(".", 196)+"\nswitches 3\nlate\ndropped 2",
		// A run changes nothing.
		"show", "1 every 4; 2/3 every 6; 1 every 6\n0@0:1 1@0:3 2@0:1",
		"tasks 2 every 4 by 2; 2 every 4 by 2", "2 every 4 by 2; 2 every 4 by 2",
		"worst 8", "ok",
		"run 1", "trace 0\nswitches\nlate\ndropped",
		"run 2", "trace 00\nswitches\nlate 1\ndropped",
		"run 8", "trace 00110011\nswitches\nlate 1 3\ndropped",
		// The policy counts.
		"tasks 4 every 12; 1 every 4", "4 every 12; 1 every 4",
		"jobs 0@0:2 1@1:1", "ok",
		"run 4", "trace 001.\nswitches\nlate\ndropped",
		"deadlines", "ok",
		"run 4", "trace 010.\nswitches\nlate\ndropped",
		"places", "ok",
		"run 4", "trace 001.\nswitches\nlate\ndropped",
		"tasks 1/4 every 5; 2 every 10; 1 every 10", "1/4 every 5; 2 every 10; 1 every 10",
		"worst 6", "ok",
		"run 10", "trace 0000.0000.\nswitches 1 6\nlate\ndropped 1 2",
	)
}

func TestLinesThatPack(t *testing.T) {
	checkTalk(t,
		"tasks 2 every 5; 2 every 5; 3 every 5; 3 every 5", "2 every 5; 2 every 5; 3 every 5; 3 every 5",
		"fewest", "fewest 2",
		"pack 1", "none",
		"pack 2", "none",
		"pack 3", "processor 0: 2 every 5; 2 every 5\nprocessor 1: 3 every 5\nprocessor 2: 3 every 5\nend",
		"pack 4", "none",
		"pack 0", "none",
		"pack -1", "none",
		"pack 99999999999999999", "none",
		// Processors without tasks are not told.
		"tasks 1 every 5; 2/3 every 10 by 7", "1 every 5; 2/3 every 10 by 7",
		"pack 1", "processor 0: 1 every 5; 2/3 every 10 by 7\nend",
		"pack 2", "processor 0: 1 every 5; 2/3 every 10 by 7\nend",
		"pack 3", "processor 0: 1 every 5; 2/3 every 10 by 7\nend",
		"fewest", "fewest 1",
		"tasks 3 every 5; 4 every 5; 2 every 5; 1 every 5", "3 every 5; 4 every 5; 2 every 5; 1 every 5",
		"pack 3", "processor 0: 3 every 5; 2 every 5\nprocessor 1: 4 every 5; 1 every 5\nend",
		"pack 2", "processor 0: 3 every 5; 2 every 5\nprocessor 1: 4 every 5; 1 every 5\nend",
		"fewest", "fewest 2",
		"tasks 3 every 5; 3 every 5; 3 every 5", "3 every 5; 3 every 5; 3 every 5",
		"pack 3", "processor 0: 3 every 5\nprocessor 1: 3 every 5\nprocessor 2: 3 every 5\nend",
		"fewest", "fewest 3",
		"tasks 3 every 5; 3 every 5; 3 every 5; 3 every 5", "3 every 5; 3 every 5; 3 every 5; 3 every 5",
		"pack 3", "none",
		"fewest", "none",
		// To pack tasks changes nothing.
		"show", "3 every 5; 3 every 5; 3 every 5; 3 every 5\n",
	)
}

func TestLinesThatTellGreatestNeeds(t *testing.T) {
	checkTalk(t,
		"tasks 1 every 4 by 2; 3 every 12; 2/3 every 8; 1/1 every 20", "1 every 4 by 2; 3 every 12; 2/3 every 8; 1/1 every 20",
		"high 2", "high 3",
		"high 3", "high 6",
		// There is no such task, or it is not critical.
		"high 0", "none",
		"high 1", "none",
		"high 4", "none",
		"high -1", "none",
		"high 99999999999999999", "none",
		"show", "1 every 4 by 2; 3 every 12; 2/3 every 8; 1/1 every 20\n",
		"tasks 5 every 10; 2/6 every 10", "5 every 10; 2/6 every 10",
		"high 1", "none",
		"deadlines", "ok",
		"high 1", "high 8",
		"high 0", "none",
		"tasks 5 every 10; 2/9 every 10", "5 every 10; 2/9 every 10",
		"high 1", "none",
	)
}

// linesThatTell are lines that tell all that depends on tasks, jobs and a policy.
const linesThatTell = "show\nholds\nresponses\nshares\nfactor\nrun 20\nhigh 0\nhigh 1\npack 1\npack 2\npack 3\nfewest\n"

func TestLinesWithoutTasks(t *testing.T) {
	for _, before := range []struct{ lines, output string }{
		{"", ""},
		{"tasks \n", "\n"},
		{"places\n", "ok\n"},
		{"deadlines\n", "ok\n"},
		{"admit 1 every 4\nleave 0\n", "1 every 4\n\n"},
		{"deadlines\nadmit 1/2 every 4\nworst 9\nleave 0\n", "ok\n1/2 every 4\nok\n\n"},
	} {
		for _, c := range []struct{ line, output string }{
			{"tasks ", ""},
			{"tasks 1 every 4", "1 every 4"},
			{"tasks x", "what"},
			{"admit 1 every 4", "1 every 4"},
			{"admit 1/4 every 4", "1/4 every 4"},
			{"admit ", "what"},
			{"sort", ""},
			{"leave 0", "no"},
			{"leave -1", "no"},
			{"raise 0", ""},
			{"raise 1", ""},
			{"raise 20", ""},
			{"raise 21", "no"},
			{"assign", ""},
			{"places", "ok"},
			{"deadlines", "ok"},
			{"jobs ", "ok"},
			{"jobs 0@0:1", "what"},
			{"rule 0", "ok"},
			{"rule 200", "ok"},
			{"rule 201", "what"},
			{"worst 0", "ok"},
			{"worst 200", "ok"},
			{"worst 201", "what"},
			{"show", "\n"},
			{"holds", "holds yes"},
			{"responses", "end"},
			{"shares", "shares 0 0 0"},
			{"factor", "factor 1"},
			{"run 0", "trace \nswitches\nlate\ndropped"},
			{"run 3", "trace ...\nswitches\nlate\ndropped"},
			{"run 201", "what"},
			{"high 0", "none"},
			{"pack 0", "none"},
			{"pack 1", "end"},
			{"pack 2", "end"},
			{"pack 3", "end"},
			{"pack 4", "none"},
			{"fewest", "fewest 1"},
		} {
			script := before.lines + c.line
			if got := impl.RunScript(script); got != before.output+c.output+"\n" {
				t.Errorf("RunScript(%q) = %q, not %q", script, got, before.output+c.output+"\n")
			}
			checkScript(t, script+"\n"+linesThatTell)
		}
	}
	// A task that is due before its next job comes holds by place alone.
	checkTalk(t,
		"admit 1 every 4 by 3", "1 every 4 by 3",
		"tasks ", "",
		"deadlines", "ok",
		"admit 1 every 4 by 3", "no",
		"places", "ok",
		"admit 1 every 4 by 3", "1 every 4 by 3",
	)
}

// TestPoliciesThatDoNotFit takes tasks that hold by one policy only, and asks by both of them what depends on it.
func TestPoliciesThatDoNotFit(t *testing.T) {
	// They are due before their next jobs come.
	byPlace := []string{
		"holds", "holds yes",
		"run 12", "trace 01110...0...\nswitches 3\nlate\ndropped",
		"high 1", "high 11",
		"pack 1", "processor 0: 1 every 4 by 2; 2/3 every 12\nend",
		"pack 3", "processor 0: 1 every 4 by 2; 2/3 every 12\nend",
		"fewest", "fewest 1",
		"factor", "none",
	}
	byDue := []string{
		"holds", "holds no",
		"run 12", "what",
		"high 1", "none",
		"pack 1", "none",
		"pack 3", "none",
		"fewest", "none",
		"admit 1 every 20", "no",
		"factor", "none",
		"show", "1 every 4 by 2; 2/3 every 12\n0@0:1 1@0:3 0@4:1 0@8:1",
	}
	start := []string{"tasks 1 every 4 by 2; 2/3 every 12", "1 every 4 by 2; 2/3 every 12", "worst 12", "ok"}
	checkTalk(t, slices.Concat(start, byPlace, []string{"deadlines", "ok"}, byDue, []string{"places", "ok"}, byPlace,
		[]string{"admit 1 every 20", "1 every 4 by 2; 2/3 every 12; 1 every 20"})...)
	// No order of them holds, but they leave a processor no tick without need.
	byPlace = []string{
		"holds", "holds no",
		"run 12", "trace 001100110011\nswitches\nlate 1\ndropped",
		"high 1", "none",
		"pack 1", "none",
		"pack 2", "processor 0: 2 every 4\nprocessor 1: 3/3 every 6\nend",
		"fewest", "fewest 2",
		"admit 1 every 20", "no",
		"assign", "no",
		"factor", "factor 1",
	}
	byDue = []string{
		"holds", "holds yes",
		"run 12", "trace 001110010011\nswitches\nlate\ndropped",
		"high 1", "high 3",
		"pack 1", "processor 0: 2 every 4; 3/3 every 6\nend",
		"pack 2", "processor 0: 2 every 4; 3/3 every 6\nend",
		"fewest", "fewest 1",
		"admit 1 every 20", "no",
		"assign", "no",
		"factor", "factor 1",
	}
	start = []string{"tasks 2 every 4; 3/3 every 6", "2 every 4; 3/3 every 6", "worst 12", "ok"}
	checkTalk(t, slices.Concat(start, byPlace, []string{"deadlines", "ok"}, byDue, []string{"deadlines", "ok"}, byDue,
		[]string{"places", "ok"}, byPlace, []string{"places", "ok"}, byPlace)...)
	// There is a factor, so that they run by deadline, but they do not hold.
	checkTalk(t,
		"deadlines", "ok",
		"tasks 2/9 every 10; 5 every 10", "2/9 every 10; 5 every 10",
		"worst 10", "ok",
		"holds", "holds no",
		"run 10", "trace 000000000.\nswitches 2\nlate\ndropped 1",
		"high 0", "none",
		"pack 1", "none",
		"pack 2", "processor 0: 2/9 every 10\nprocessor 1: 5 every 10\nend",
		"fewest", "fewest 2",
		"admit 1 every 20", "no",
		"places", "ok",
		"holds", "holds yes",
		"high 0", "high 10",
		"pack 1", "processor 0: 2/9 every 10; 5 every 10\nend",
		"fewest", "fewest 1",
		"admit 1 every 20", "2/9 every 10; 5 every 10; 1 every 20",
	)
}

// TestJobsAfterLinesThatSetTasks takes each line that sets tasks, and finds the jobs only where it does not.
func TestJobsAfterLinesThatSetTasks(t *testing.T) {
	tasks, jobs := "1 every 4; 2/3 every 8", "0@0:1 1@1:3"
	start := []string{"tasks " + tasks, tasks, "jobs " + jobs, "ok"}
	for _, c := range []struct{ line, tasks string }{
		{"tasks 1 every 4; 2/3 every 8", "1 every 4; 2/3 every 8"},
		{"tasks 2 every 4; 2/3 every 8; 1 every 20", "2 every 4; 2/3 every 8; 1 every 20"},
		{"tasks ", ""},
		{"admit 1 every 20", "1 every 4; 2/3 every 8; 1 every 20"},
		{"sort", "1 every 4; 2/3 every 8"},
		{"leave 0", "2/3 every 8"},
		{"leave 1", "1 every 4"},
		{"raise 0", "1 every 4; 2/3 every 8"},
		{"raise 1", "2 every 4; 3/4 every 8"},
		{"assign", "1 every 4; 2/3 every 8"},
	} {
		checkTalk(t, slices.Concat(start, []string{
			c.line, c.tasks,
			"show", c.tasks + "\n",
			"run 4", "trace ....\nswitches\nlate\ndropped",
		})...)
		// Jobs come again only for the tasks that there are.
		checkScript(t, scriptOf("tasks "+tasks, "jobs "+jobs, c.line, "jobs "+jobs, "show", "run 8", "jobs 0@0:1", "show"))
	}
	for _, c := range []struct{ line, output string }{
		{"tasks x", "what"},
		{"tasks", "what"},
		{"tasks 1 every 4; 2/3 every 8 ", "what"},
		{"admit 4 every 4", "no"},
		{"admit x", "what"},
		{"admit ", "what"},
		{"admit 1 every 4; 1 every 4", "what"},
		{"sort ", "what"},
		{"leave 2", "no"},
		{"leave -1", "no"},
		{"leave 00", "what"},
		{"raise -1", "no"},
		{"raise 4", "no"},
		{"raise 21", "no"},
		{"raise +1", "what"},
		{"assign 0", "what"},
		{"places", "ok"},
		{"deadlines", "ok"},
		{"jobs x", "what"},
		{"jobs 2@0:1", "what"},
		{"rule 201", "what"},
		{"worst -1", "what"},
		{"show x", "what"},
		{"clear", "what"},
	} {
		checkTalk(t, slices.Concat(start, []string{
			c.line, c.output,
			"show", tasks + "\n" + jobs,
			"run 8", "trace 0111....\nswitches 3\nlate\ndropped",
		})...)
	}
	// Tasks that no order can help, and their jobs.
	checkTalk(t,
		"tasks 2 every 4; 3 every 6", "2 every 4; 3 every 6",
		"rule 1", "ok",
		"assign", "no",
		"admit 1 every 20", "no",
		"show", "2 every 4; 3 every 6\n0@0:2 1@0:3",
		"sort", "2 every 4; 3 every 6",
		"show", "2 every 4; 3 every 6\n",
	)
}

func TestJobsOfTasksThatLeft(t *testing.T) {
	checkTalk(t,
		"tasks 1 every 4; 2/3 every 8; 1 every 20", "1 every 4; 2/3 every 8; 1 every 20",
		"jobs 0@0:1 1@0:3 2@0:1", "ok",
		"leave 2", "1 every 4; 2/3 every 8",
		"show", "1 every 4; 2/3 every 8\n",
		"jobs 0@0:1 1@0:3 2@0:1", "what",
		"show", "1 every 4; 2/3 every 8\n",
		"jobs 0@0:1 1@0:3", "ok",
		"leave 0", "2/3 every 8",
		"run 4", "trace ....\nswitches\nlate\ndropped",
		"jobs 1@0:1", "what",
		"jobs 0@0:3", "ok",
		"run 4", "trace 000.\nswitches 2\nlate\ndropped",
		// It comes again, but its jobs do not.
		"leave 0", "",
		"admit 2/3 every 8", "2/3 every 8",
		"show", "2/3 every 8\n",
		"run 4", "trace ....\nswitches\nlate\ndropped",
		// Where no task leaves, the jobs stay.
		"worst 9", "ok",
		"leave 1", "no",
		"show", "2/3 every 8\n0@0:3 0@8:3",
	)
}

// TestPoliciesStay takes lines that set tasks and jobs, after which the policy is the same one.
func TestPoliciesStay(t *testing.T) {
	for _, line := range []string{
		"tasks 4 every 12; 1 every 4", "admit 4 every 12", "admit 20 every 20", "sort", "leave 0", "leave 9", "raise 0", "raise 9", "assign", "jobs ", "jobs x", "rule 9", "worst 9",
		"show", "holds", "responses", "shares", "factor", "run 9", "high 0", "pack 1", "fewest", "what", "places ", "deadlines ", "Places", "place", "deadline",
	} {
		end := []string{"tasks 4 every 12; 1 every 4", "holds"}
		for _, c := range []struct{ policies, holds string }{
			{"", "no"}, {"places", "no"}, {"deadlines", "yes"}, {"deadlines\nplaces", "no"}, {"places\ndeadlines", "yes"}, {"deadlines\ndeadlines", "yes"},
		} {
			got := checkScript(t, scriptOf(slices.Concat([]string{c.policies, "tasks 4 every 12; 1 every 4", line}, end)...))
			if !strings.HasSuffix(got, "\n4 every 12; 1 every 4\nholds "+c.holds+"\n") {
				t.Errorf("after %q and %q, the output ends otherwise than by holds %s: %q", c.policies, line, c.holds, got)
			}
		}
	}
}

func TestEmptyLines(t *testing.T) {
	for _, c := range []struct{ script, output string }{
		{"", ""},
		{"\n", ""},
		{"\n\n\n", ""},
		{strings.Repeat("\n", 200), ""},
		{strings.Repeat("\n", 20000), ""},
		{"show", "\n\n"},
		{"show\n", "\n\n"},
		{"\nshow", "\n\n"},
		{"show\n\n", "\n\n"},
		{"\n\nshow\n\n\nshow\n\n", "\n\n\n\n"},
		{"holds\nholds", "holds yes\nholds yes\n"},
		{"holds\n\nholds\n", "holds yes\nholds yes\n"},
		{"tasks 1 every 4\n\n\nsort", "1 every 4\n1 every 4\n"},
		{"tasks \n", "\n"},
		{"tasks ", "\n"},
		{"tasks\n", "what\n"},
		{"tasks", "what\n"},
		{"x", "what\n"},
		{" ", "what\n"},
		{" \n\n ", "what\nwhat\n"},
		{"\r\n", "what\n"},
		{"\n\r", "what\n"},
		{"\t\n\x00\n", "what\nwhat\n"},
	} {
		if got := impl.RunScript(c.script); got != c.output {
			t.Errorf("RunScript(%.60q) = %.60q, not %q", c.script, got, c.output)
		}
		checkScript(t, c.script)
	}
}

// TestLongScripts takes scripts of as many bytes as there may be, and of one more.
func TestLongScripts(t *testing.T) {
	for _, c := range []struct{ begin, fill, end, output string }{
		{"", "\n", "", ""},
		{"", "x", "", "what\n"},
		{"", " ", "", "what\n"},
		{"", "\xff", "", "what\n"},
		{"", "\u00e9", "", "what\n"},
		{"holds\n", "\n", "", "holds yes\n"},
		{"holds\n", "x", "\nshow", "holds yes\nwhat\n\n\n"},
		{"tasks ", "1", "", "what\n"},
		{"admit ", "0", "1 every 4", "what\n"},
		{"jobs ", " ", "", "what\n"},
		{"run ", "0", "\nholds\n", "what\nholds yes\n"},
		{"run 1", "0", "", "what\n"},
		{"run -", "1", "", "what\n"},
		{"holds", " ", "", "what\n"},
	} {
		for _, length := range []int{19998, 20000, 20001, 20002, 40000, 1000000} {
			script := c.begin + strings.Repeat(c.fill, (length-len(c.begin+c.end))/len(c.fill)) + c.end
			if len(script) < length {
				script = strings.Replace(script, c.fill, "y"+c.fill, 1)
			}
			want := c.output
			if length > 20000 {
				want = "long\n"
			}
			if got := impl.RunScript(script); len(script) != length || got != want {
				t.Errorf("RunScript(%q.., of %d bytes) = %q, not %q", script[:30], len(script), got, want)
			}
		}
	}
}

// TestManyLines takes scripts of as many lines as are executed, and of more.
func TestManyLines(t *testing.T) {
	for _, c := range []struct {
		name, script, output string
	}{
		{"199 lines", strings.Repeat("holds\n", 199), strings.Repeat("holds yes\n", 199)},
		{"200 lines", strings.Repeat("holds\n", 200), strings.Repeat("holds yes\n", 200)},
		{"200 lines, the last one without an end", strings.Repeat("holds\n", 199) + "holds", strings.Repeat("holds yes\n", 200)},
		{"201 lines", strings.Repeat("holds\n", 201), strings.Repeat("holds yes\n", 200) + "full\n"},
		{"201 lines, the last one without an end", strings.Repeat("holds\n", 200) + "holds", strings.Repeat("holds yes\n", 200) + "full\n"},
		{"202 lines", strings.Repeat("holds\n", 202), strings.Repeat("holds yes\n", 200) + "full\n"},
		{"1000 lines", strings.Repeat("holds\n", 1000), strings.Repeat("holds yes\n", 200) + "full\n"},
		{"lines that are in no table", strings.Repeat("x\n", 200), strings.Repeat("what\n", 200)},
		{"one more of them", strings.Repeat("x\n", 201), strings.Repeat("what\n", 200) + "full\n"},
		{"a line in no table behind 200", strings.Repeat("holds\n", 200) + "x", strings.Repeat("holds yes\n", 200) + "full\n"},
		{"empty lines alone", strings.Repeat("\n", 1000), ""},
		{"199 empty lines", strings.Repeat("\n", 199) + "holds\n", "holds yes\n"},
		{"199 empty lines, and one without an end", strings.Repeat("\n", 199) + "holds", "holds yes\n"},
		{"200 empty lines", strings.Repeat("\n", 200) + "holds\n", "full\n"},
		{"200 empty lines, and two others", strings.Repeat("\n", 200) + "holds\nshow\n", "full\n"},
		{"19000 empty lines", strings.Repeat("\n", 19000) + "x", "full\n"},
		{"each second line is empty", strings.Repeat("holds\n\n", 100), strings.Repeat("holds yes\n", 100)},
		{"each second line is empty, and there is one more", strings.Repeat("holds\n\n", 100) + "holds", strings.Repeat("holds yes\n", 100) + "full\n"},
		{"each second line is empty, with the first one", strings.Repeat("\nholds\n", 101), strings.Repeat("holds yes\n", 100) + "full\n"},
		{"empty lines behind 200", strings.Repeat("holds\n", 200) + strings.Repeat("\n", 100), strings.Repeat("holds yes\n", 200)},
		{"a line behind empty ones behind 200", strings.Repeat("holds\n", 200) + strings.Repeat("\n", 100) + "holds", strings.Repeat("holds yes\n", 200) + "full\n"},
		{"an empty line between 200 others", strings.Repeat("holds\n", 100) + "\n" + strings.Repeat("holds\n", 100), strings.Repeat("holds yes\n", 199) + "full\n"},
		{"lines of a space", strings.Repeat(" \n", 201), strings.Repeat("what\n", 200) + "full\n"},
	} {
		if got := impl.RunScript(c.script); got != c.output {
			t.Errorf("%s: the output is %.60q.. of %d bytes, not %.60q.. of %d bytes", c.name, got, len(got), c.output, len(c.output))
		}
		checkScript(t, c.script)
	}
}

// TestLongOutput takes scripts whose output becomes as long as it may be before a line, and longer.
func TestLongOutput(t *testing.T) {
	// Without tasks, a run says 29 bytes more than it has ticks.
	full := strings.Repeat("run 200\n", 174)
	begin := strings.Repeat("trace "+strings.Repeat(".", 200)+"\nswitches\nlate\ndropped\n", 174)
	if len(begin) != 39846 {
		t.Fatalf("174 runs say %d bytes", len(begin))
	}
	for ticks := 120; ticks <= 130; ticks++ {
		lastRun := fmt.Sprintf("run %d\n", ticks)
		said := begin + "trace " + strings.Repeat(".", ticks) + "\nswitches\nlate\ndropped\n"
		for _, c := range []struct{ lines, output string }{
			{"", ""},
			{"\n\n\n", ""},
			{"holds", "holds yes\n"},
			{"holds\n", "holds yes\n"},
			{"\n\nholds\n", "holds yes\n"},
			{"x\n", "what\n"},
			{"tasks \n", "\n"},
		} {
			want := said + c.output
			if c.output != "" && len(said) > 40000 {
				want = said + "full\n"
			}
			if got := impl.RunScript(full + lastRun + c.lines); got != want {
				t.Errorf("%q behind an output of %d bytes: it ends by %q, and has %d bytes, not %d", c.lines, len(said), got[len(got)-60:], len(got), len(want))
			}
		}
		checkScript(t, full+lastRun+"holds\nholds\nshow\nx\n\nholds\n")
	}
	// What a line says is told whole, even if it has more bytes than are left.
	if got := impl.RunScript(full + "run 200\n"); got != begin+begin[:229] {
		t.Errorf("a run behind 39846 bytes of output is told in %d bytes", len(got))
	}
	// Nothing is executed behind the line that is refused, whatever it would be.
	if got := impl.RunScript(full + "run 200\nrun 0\nx\n\nholds"); got != begin+begin[:229]+"full\n" {
		t.Errorf("behind 40075 bytes of output, %d more are told", len(got)-40075)
	}
	// With tasks and jobs, a text of them is longer than what comes in by its line.
	lines := scriptOf("tasks 10/10 every 20; 10/10 every 20; 10/10 every 20; 10/10 every 20; 10/10 every 20", "worst 200") + strings.Repeat("show\n", 190)
	if got := checkScript(t, lines); len(got) < 40000 || len(got) > 41000 || !strings.HasSuffix(got, "\nfull\n") || strings.Count(got, "full") != 1 {
		t.Errorf("the output of 190 lines is %d bytes, and ends by %q", len(got), got[len(got)-60:])
	}
}

// startOfScript has tasks that hold by deadline alone, and jobs that run otherwise by each policy, so that endOfScript
// tells whether the lines between have changed anything.
const (
	startOfScript = "tasks 4 every 12; 1/2 every 4\njobs 0@0:2 1@1:1\n"
	endOfScript   = "\nshow\nholds\nrun 4\n"
)

// checkSenseless checks that a line has no effect by either policy.
func checkSenseless(t *testing.T, line string) {
	t.Helper()
	for _, c := range []struct{ policy, end string }{
		{"places", "holds no\ntrace 001.\nswitches\nlate\ndropped\n"},
		{"deadlines", "holds yes\ntrace 010.\nswitches\nlate\ndropped\n"},
	} {
		got := impl.RunScript(c.policy + "\n" + startOfScript + line + endOfScript)
		if want := "ok\n4 every 12; 1/2 every 4\nok\nwhat\n4 every 12; 1/2 every 4\n0@0:2 1@1:1\n" + c.end; got != want {
			t.Errorf("around the line %.100q, the output is %q, not %q", line, got, want)
		}
	}
}

// The words of the table, by what follows them.
var (
	wordsAlone      = strings.Fields("sort assign places deadlines show holds responses shares factor fewest")
	wordsWithText   = strings.Fields("tasks admit jobs")
	wordsWithNumber = strings.Fields("leave raise rule worst run high pack")
)

func TestLinesThatAreInNoTable(t *testing.T) {
	words := slices.Concat(wordsAlone, wordsWithText, wordsWithNumber)
	if len(words) != 20 {
		t.Fatalf("the table has %d words", len(words))
	}
	lines := []string{
		" ", "  ", "   x", "0", "-1", "what", "ok", "no", "none", "end", "full", "long", "task", "job", "help", "exit", "clear", "policy", "set", "low 0", "switch 0",
		"trace", "switches", "late", "dropped", "processor 0", "1 every 4", "0@0:1", "#", "# show", "//", ";", "\"show\"", "'", "\\", "\\n", "%s", "%!", "$", "*", "-", "=",
		"\t", "\r", "\x00", "\x7f", "\x80", "\xff", "\u00e9", "\u4e16\u754c", "\U0001f600", "\u00a0", "\u2028", "\ufeff", "\ufeffshow",
		"show;holds", "show; holds", "show holds", "show,holds", "holds yes", "factor 1", "shares 0 0 0", "fewest 1", "responses 0", "assign 0 1", "places 0", "deadlines 1", "sort 0",
	}
	for _, rest := range []string{"", " ", " x", " 0", " 1 every 4", "  "} {
		for _, word := range []string{"x", "y2", "admits", "admi", "taskss", "run1", "run0", "leave0", "high-0", "raise1", "tasks1", "rule:", "worst=", "pack_", "packs", "fewer", "least"} {
			lines = append(lines, word+rest)
		}
	}
	for _, word := range words {
		upper := strings.ToUpper(word)
		for _, rest := range []string{"", " ", " 0", " 1", " 1 every 4", " 0@0:1"} {
			lines = append(lines, upper+rest, upper[:1]+word[1:]+rest, word[:len(word)-1]+upper[len(word)-1:]+rest, word+word+rest, word+"s"+rest, word[1:]+rest,
				" "+word+rest, "\t"+word+rest, "\x00"+word+rest, word+"\t"+rest, word+"\r"+rest, word+"\x00"+rest, word+"\u00a0"+rest, word+"\xff"+rest, word+":"+rest, "\u017f"+word+rest)
		}
	}
	for _, line := range lines {
		checkSenseless(t, line)
	}
}

func TestLinesWithAnotherRest(t *testing.T) {
	for _, word := range wordsAlone {
		for _, rest := range []string{"", " ", "  ", "x", "0", "1", "-1", " 0", "0 ", word, "1 every 4", "\r", "\t", "\x00", "\xff"} {
			checkSenseless(t, word+" "+rest)
		}
	}
	for _, word := range slices.Concat(wordsWithText, wordsWithNumber) {
		checkSenseless(t, word)
		for _, rest := range []string{
			" ", "  ", "x", " x", "x ", "\r", "\t", "\x00", "\xff", word, "one", "true", "\u0661", "\uff11", "0.0", "1.5", "1e1", "0x1", "0b1", "1_0", "1,0", "1;0", "--1", "-", "+", "+-1", "-+1", "(1)", "1-1",
		} {
			checkSenseless(t, word+" "+rest)
		}
	}
	for _, word := range wordsWithNumber {
		checkSenseless(t, word+" ")
		for _, n := range []string{"0", "1", "2", "3", "17", "200", "-1", "-2"} {
			for _, s := range []string{
				" " + n, n + " ", n + "\t", "\t" + n, n + "\r", n + " " + n, n + " x", n + "x", "x" + n, n + ".", n + ".0", n + "\x00", "\u00a0" + n, n + "\xff", "+" + n, "0" + n, "00" + n, "-0" + strings.TrimPrefix(n, "-"),
				"--" + n, n + "-", "\"" + n + "\"", strings.Repeat("0", 17) + n, n + strings.Repeat("0", 18),
			} {
				if s == "-00" || !numbered.MatchString(word+" "+s) {
					checkSenseless(t, word+" "+s)
				} else {
					t.Errorf("%q is a number", s)
				}
			}
		}
		for _, s := range []string{"-0", "00", "-00", "01", "-01", "007", "+0", "+1", "000000000000000001", "100000000000000000", "123456789012345678", "-100000000000000000", "999999999999999999", "-999999999999999999",
			"9223372036854775807", "-9223372036854775808", "9223372036854775808", "18446744073709551616", "18446744073709551617", "4294967296000000000", strings.Repeat("9", 100)} {
			checkSenseless(t, word+" "+s)
		}
	}
	for _, s := range []string{
		"1", "every 4", "1 every", "1 every ", "0 every 4", "01 every 4", "1 every 04", "1 every 4 by 4", "1 every 4 by 0", "1 every 21", "5 every 4", "2/1 every 4", "1/5 every 4", "1/ every 4", "/1 every 4", "-1 every 4",
		" 1 every 4", "1 every 4 ", "1  every 4", "1 every  4", "1 Every 4", "1 every 4\r", "1 every 4;", "1 every 4; ", "1 every 4, 1 every 4", "1 every 4;1 every 4", "1 every 4;  1 every 4", "; 1 every 4", "1 every 4; ; 1 every 4",
		"1 every 4; 1 every 4; 1 every 4; 1 every 4; 1 every 4; 1 every 4", "1 every 4; 1 every 21", "1 every 4; x",
	} {
		checkSenseless(t, "tasks "+s)
		checkSenseless(t, "admit "+s)
	}
	checkSenseless(t, "admit ")
	checkSenseless(t, "admit 1 every 4; 1 every 4")
	for _, s := range []string{
		"0", "0@0", "0:1", "@:", "0@0:", "@0:1", "0@:1", "0@0:0", "0@0:5", "1@0:3", "2@0:1", "5@0:1", "-1@0:1", "0@-1:1", "0@0:-1", "0@201:1", "00@0:1", "0@00:1", "0@0:01", "+0@0:1", "0@+0:1", "0@0:+1", "0@-0:1",
		" 0@0:1", "0@0:1 ", "0@0:1  1@0:1", "0@0:1,1@0:1", "0@0:1;1@0:1", "0@0:1; 1@0:1", "0@0:1\r", "0@0:1\t1@0:1", "0 @0:1", "0@0: 1", "0@0:1:1", "0@0@0:1", "0:0@1",
		"1@0:1 0@0:1", "0@0:1 0@0:1", "0@0:1 0@11:1", "1@0:1 1@3:1", "0@1:1 1@0:1", "0@0:1 x", "0@0:1 2@0:1",
	} {
		checkSenseless(t, "jobs "+s)
	}
}

// TestNumbersInLines takes the greatest and the least numbers that are read, and tells them by what they bring about.
func TestNumbersInLines(t *testing.T) {
	for _, n := range []string{"99999999999999999", "-99999999999999999", "10000000000000000", "-10000000000000000", "12345678901234567", "4294967296", "4294967297", "-4294967296", "2147483648", "256", "65536", "-201", "201", "-1"} {
		for _, c := range []struct{ word, output string }{{"leave", "no"}, {"raise", "no"}, {"rule", "what"}, {"worst", "what"}, {"run", "what"}, {"high", "none"}, {"pack", "none"}} {
			if c.word == "raise" && n == "-1" {
				continue
			}
			if got := impl.RunScript("admit 2/3 every 9\n" + c.word + " " + n); got != "2/3 every 9\n"+c.output+"\n" {
				t.Errorf("%s %s says %q", c.word, n, got)
			}
		}
	}
	checkTalk(t,
		"admit 2/3 every 9", "2/3 every 9",
		"raise -1", "1/2 every 9",
		"raise 7", "8/9 every 9",
		"raise -7", "1/2 every 9",
		"high 0", "high 9",
		"rule 10", "ok",
		"show", "1/2 every 9\n0@0:1 0@9:1",
		"run 10", "trace 0........0\nswitches\nlate\ndropped",
		"leave 0", "",
	)
}

// TestLinesNearOthers takes lines that differ by a byte from ones of the table.
func TestLinesNearOthers(t *testing.T) {
	lines := []string{
		"tasks 1 every 4; 2/3 every 8 by 7", "admit 1/2 every 12", "sort", "leave 1", "raise 10", "raise -1", "assign", "places", "deadlines", "jobs 0@0:2 1@0:1 0@12:4", "rule 9", "worst 10", "show", "holds", "responses",
		"shares", "factor", "run 10", "high 1", "pack 2", "fewest", "tasks ", "jobs ",
	}
	for _, line := range lines {
		nearTexts(line, "018 -+\n\r\x00\xe9s", func(near string) { checkScript(t, "deadlines\n"+startOfScript+near+endOfScript) })
	}
	for _, line := range []string{"show", "run 4", "jobs 0@0:1", "admit 1 every 9"} {
		nearTexts(line, allBytes(), func(near string) { checkScript(t, "deadlines\n"+startOfScript+near+endOfScript) })
	}
}

// line returns a line of a script, mostly one that has an effect, given what the lines before it have left.
func (d *dice) line(r *reader) string {
	number := d.below(len(r.list)+2) - 1
	switch d.below(24) {
	case 0:
		return "tasks " + textOfTasks(d.tasks(1+d.below(20), 10+d.below(90), d.below(2) == 0))
	case 1, 2, 3, 4:
		return "admit " + textOf(d.task(4+d.below(17), 10+d.below(40), r.policy == 1 && d.below(8) > 0))
	case 5:
		return fmt.Sprint("leave ", number)
	case 6:
		return fmt.Sprint("raise ", d.below(5)-2)
	case 7:
		return fmt.Sprint("high ", number)
	case 8:
		return fmt.Sprint("pack ", d.below(4))
	case 9, 10:
		text, _ := wantText(d.jobs(r.list, d.below(40)))
		return "jobs " + text
	case 11:
		return fmt.Sprint("rule ", d.below(50)*(1+3*d.below(2)))
	case 12:
		return fmt.Sprint("worst ", d.below(50)*(1+3*d.below(2)))
	case 13, 14, 15:
		return fmt.Sprint("run ", d.below(60))
	case 16, 17:
		return ""
	case 18:
		return []string{"x", "tasks", "run", "run +1", "run 201", "raise 021", "sort ", " show", "worst -1", "high 1 ", "jobs 0@0:99", "admit 1", "show\r"}[d.below(13)]
	}
	return wordsAlone[d.below(len(wordsAlone))]
}

// script returns so many lines.
func (d *dice) script(lines int) string {
	r, script := &reader{}, ""
	for range lines {
		line := d.line(r)
		script += line + "\n"
		if line != "" {
			r.read(line)
		}
	}
	return script
}

// lines notes what lines say.
func (s seen) lines(script string) {
	r := &reader{}
	for line := range strings.Lines(script) {
		line = strings.TrimSuffix(line, "\n")
		if line == "" {
			continue
		}
		policy, jobs := r.policy, len(r.jobs)
		said := r.read(line)
		word, _, _ := strings.Cut(line, " ")
		if !slices.Contains(slices.Concat(wordsAlone, wordsWithText, wordsWithNumber), word) {
			word = "another word"
		}
		answer := "more"
		if slices.Contains([]string{"what\n", "no\n", "none\n"}, said) {
			answer = said[:len(said)-1]
		}
		s.add(fmt.Sprint(word, " by ", policy, ": ", answer), true)
		s.add(fmt.Sprint(word, ": jobs go"), jobs > 0 && len(r.jobs) == 0)
		s.add("a task without a response", word == "responses" && strings.Count(said, "low") < len(r.list))
		s.add("a response at the switch", word == "responses" && strings.Contains(said, "switch"))
		s.add("late jobs", strings.Contains(said, "late "))
		s.add("dropped jobs", strings.Contains(said, "dropped "))
		s.add("switches", strings.Contains(said, "switches "))
	}
}

func TestManyScripts(t *testing.T) {
	d, s := &dice{10}, seen{}
	for range 1500 {
		script := d.script(10 + d.below(60))
		checkScript(t, script)
		s.lines(script)
	}
	s.check(t, 90, 5)
}

// checkBeginnings checks that the output of a script begins with that of each part of it up to a line break, with and without
// this one, and returns how many of these say less than the script.
func checkBeginnings(t *testing.T, script string) int {
	t.Helper()
	whole, less := impl.RunScript(script), 0
	for at := range len(script) {
		if script[at] != '\n' {
			continue
		}
		begin, without := impl.RunScript(script[:at+1]), impl.RunScript(script[:at])
		if !strings.HasPrefix(whole, begin) || without != begin {
			t.Errorf("the first %d bytes of %.1000q say %.1000q, and without the line break %.1000q, not the begin of %.1000q", at+1, script, begin, without, whole)
		}
		if len(begin) < len(whole) {
			less++
		}
	}
	return less
}

// longScript returns a script that is not too long, but has many lines that say much.
func (d *dice) longScript() string {
	script := "tasks 1/2 every 12; 2 every 15; 1 every 20; 3/9 every 20; 1/8 every 20\nworst " + strconv.Itoa(180+d.below(21)) + "\n"
	for range 150 + d.below(100) {
		script += []string{"show", "show", "show", "run 200", "run 150", "responses", "shares", "what", "", "worst 199"}[d.below(10)] + "\n"
	}
	return script
}

func TestScriptsBeginAsTheirPrefixes(t *testing.T) {
	d, s := &dice{7}, seen{}
	for i := range 60 {
		script := d.script(30 + d.below(40))
		if i%10 == 0 {
			script = d.script(195 + d.below(30))
		}
		if i%10 == 1 {
			script = d.longScript()
		}
		output := checkScript(t, script)
		less := checkBeginnings(t, script)
		s.add("prefixes that say less", less > 5)
		s.add("full by lines", strings.HasSuffix(output, "full\n") && len(output) <= 40000)
		s.add("full by output", strings.HasSuffix(output, "full\n") && len(output) > 40005)
		s.add("not full", !strings.HasSuffix(output, "full\n"))
	}
	s.check(t, 4, 3)
	for _, script := range []string{
		strings.Repeat("holds\n", 205),
		strings.Repeat("\n", 199) + "holds\nholds\n\nholds\n",
		strings.Repeat("run 200\n", 180),
		strings.Repeat("run 200\n", 174) + "run 125\nholds\nholds\n",
		strings.Repeat("run 200\n", 174) + "run 126\n\nholds\nholds\n",
		startOfScript + "x\r\n\xff\n\x00\n \n" + endOfScript,
	} {
		checkBeginnings(t, script)
	}
	// A script that is too long begins otherwise.
	long := "holds\n" + strings.Repeat("x", 19995)
	if impl.RunScript(long) != "long\n" || impl.RunScript(long[:6]) != "holds yes\n" || impl.RunScript(long[:20000]) != "holds yes\nwhat\n" {
		t.Error("a script of 20001 bytes is not too long, or its prefixes are")
	}
}

// TestScriptsOfAnyBytes takes scripts that nobody would write.
func TestScriptsOfAnyBytes(t *testing.T) {
	d := &dice{3}
	words := slices.Concat(wordsAlone, wordsWithText, wordsWithNumber, []string{" ", "\n", "\n", "\n", "0", "1", "1 every 4", "2/3 every 8 by 7", "0@0:1", "; ", "-", "\r\n", "\x00"})
	for range 3000 {
		var script strings.Builder
		for range d.below(40) {
			switch d.below(3) {
			case 0:
				script.WriteByte(byte(d.below(256)))
			case 1:
				script.WriteString(words[d.below(len(words))])
			default:
				script.WriteString(words[d.below(len(words))] + []string{" ", "\n"}[d.below(2)])
			}
		}
		checkScript(t, script.String())
	}
	for _, script := range []string{allBytes(), strings.Repeat(allBytes(), 70), strings.Repeat("\xff\n", 150), strings.Repeat(allBytes()+"\n", 60)} {
		checkScript(t, script)
	}
}

// TestSameScriptsSayTheSame runs scripts again, between other ones, and at the same time as others.
func TestSameScriptsSayTheSame(t *testing.T) {
	d := &dice{5}
	var scripts, outputs []string
	for range 60 {
		script := d.script(20 + d.below(30))
		scripts = append(scripts, script)
		outputs = append(outputs, impl.RunScript(script))
	}
	var running sync.WaitGroup
	for first := range 8 {
		running.Go(func() {
			for i := range scripts {
				at := (i*7 + first*11) % len(scripts)
				if got := impl.RunScript(scripts[at]); got != outputs[at] {
					t.Errorf("RunScript(%q) = %q, and before %q", scripts[at], got, outputs[at])
				}
			}
		})
	}
	running.Wait()
	// A script begins without what the one before it has left.
	impl.RunScript("deadlines\n" + startOfScript)
	if got := impl.RunScript("show\nadmit 1 every 4 by 2\nholds\n"); got != "\n\n1 every 4 by 2\nholds yes\n" {
		t.Errorf("behind another script, the output is %q", got)
	}
}
