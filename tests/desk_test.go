package tests

import (
	"fmt"
	"math/rand"
	"regexp"
	"slices"
	"strconv"
	"strings"
	"testing"

	"loop.example/milldam/impl"
)

// numberForm is how the numbers of a line look.
var numberForm = regexp.MustCompile(`^(0|[1-9][0-9]{0,5}|1000000)$`)

// clerk does lines apart from the program.
type clerk struct {
	store impl.Store
}

// deskByForm is what DeskRun must answer, said apart from the program.
func deskByForm(text string) string {
	if len(text) > 20000 {
		return "long\n"
	}
	var c clerk
	told := ""
	for ahead, line := range strings.Split(text, "\n") {
		words := slices.DeleteFunc(strings.Split(line, " "), func(word string) bool { return word == "" })
		if len(words) == 0 {
			continue
		}
		if ahead >= 300 || len(told) > 60000 {
			return told + "full\n"
		}
		told += c.answer(words[0], words[1:]) + "\n"
	}
	return told
}

// take is the word of a code; the store becomes what was told.
func (c *clerk) take(next impl.Store, code int) string {
	c.store = next
	return strings.Fields("fine none type less gone big form")[code]
}

func (c *clerk) answer(first string, others []string) string {
	if many, is := map[string]int{"new": 1, "keep": 1, "merge": 2, "read": 2, "table": 1, "runs": 1, "now": 0}[first]; is {
		numbers, ok := numbersByForm(others)
		if !ok || len(numbers) != many {
			return "what"
		}
		return c.answerNumbers(first, append(numbers, 0, 0))
	}
	if first == "turn" {
		return c.answerTurn(others)
	}
	p, ok := planByForm(strings.Join(others, " "))
	if !ok {
		return "what"
	}
	return c.answerPlan(first, p)
}

func numbersByForm(words []string) (numbers []int, ok bool) {
	for _, word := range words {
		if !numberForm.MatchString(word) {
			return nil, false
		}
		n, _ := strconv.Atoi(word)
		numbers = append(numbers, n)
	}
	return numbers, true
}

func (c *clerk) answerNumbers(first string, n []int) string {
	switch first {
	case "new":
		return c.take(storeTableByForm(c.store, n[0]))
	case "keep":
		return c.take(storeKeepByForm(c.store, n[0]))
	case "merge":
		return c.take(storeMergeByForm(c.store, n[0], n[1]))
	case "read":
		z, code := storeReadByForm(c.store, n[0], n[1])
		if code != 0 {
			return c.take(c.store, code)
		}
		return linesByForm(z)
	case "table":
		if n[0] >= len(c.store.Tables) {
			return "what"
		}
		return linesByForm(c.store.Tables[n[0]])
	case "runs":
		if n[0] >= len(c.store.Views) {
			return "what"
		}
		return fmt.Sprint(flowManyByForm(c.store.Views[n[0]].Flow))
	}
	return fmt.Sprintf("%d %d", c.store.Now, c.store.Keep)
}

func (c *clerk) answerTurn(words []string) string {
	var lists [][]impl.Item
	for {
		list, cut := words, slices.Index(words, "/")
		if cut >= 0 {
			list = words[:cut]
		}
		z, ok := readByForm(strings.Join(list, " "))
		if !ok {
			return "what"
		}
		lists = append(lists, z)
		if cut < 0 {
			return c.take(storeTurnByForm(c.store, lists))
		}
		words = words[cut+1:]
	}
}

func (c *clerk) answerPlan(first string, p impl.Plan) string {
	switch first {
	case "view":
		return c.take(storeViewByForm(c.store, p))
	case "slim":
		return shapeOf(p).slim().text()
	case "push":
		return shapeOf(p).push().text()
	case "wide":
		return fmt.Sprint(wideByForm(p, c.store.Wides))
	case "mean":
		z, ok := meanByForm(p, c.store.Tables)
		if !ok {
			return "big"
		}
		return linesByForm(z)
	}
	return "what"
}

func linesByForm(z []impl.Item) string {
	lines := ""
	for _, item := range z {
		lines += strings.ReplaceAll(strings.Trim(fmt.Sprint(item.Row), "[]"), " ", ",") + fmt.Sprintf("*%d\n", item.W)
	}
	return lines + "end"
}

// scriptOf is lines, each with its end.
func scriptOf(lines ...string) string {
	text := ""
	for _, line := range lines {
		text += line + "\n"
	}
	return text
}

// shownScript shows bytes that are no letters, too, and of long texts no more than can be looked at.
func shownScript(text string) string {
	if len(text) > 3000 {
		text = text[:1500] + fmt.Sprintf(" .. (%d bytes) .. ", len(text)) + text[len(text)-1500:]
	}
	return strings.ReplaceAll(fmt.Sprintf("%q", text), `\n`, "\n")
}

// wantDesk holds what a script answers against what is said apart from the program, and tells it.
func wantDesk(t *testing.T, script string) string {
	t.Helper()
	got, want := impl.DeskRun(script), deskByForm(script)
	if got != want {
		t.Fatalf("%s\nanswers\n%s\nwant\n%s", shownScript(script), shownScript(got), shownScript(want))
	}
	return got
}

// wantAnswer asks that a script answers these lines.
func wantAnswer(t *testing.T, script string, lines ...string) {
	t.Helper()
	if got, want := wantDesk(t, script), scriptOf(lines...); got != want {
		t.Errorf("%s\nanswers\n%s\nwant\n%s", shownScript(script), shownScript(got), shownScript(want))
	}
}

// answersOf is what each line answers: what a script answers that is cut behind it, without what it answers that is cut ahead of it.
func answersOf(t *testing.T, lines []string) []string {
	t.Helper()
	var answers []string
	ahead := ""
	for i := range lines {
		told := impl.DeskRun(scriptOf(lines[:i+1]...))
		answer, goesOn := strings.CutPrefix(told, ahead)
		if !goesOn {
			t.Fatalf("%s\nanswers\n%s\nwhich does not begin with what all but the last line answer:\n%s", shownScript(scriptOf(lines[:i+1]...)), shownScript(told), shownScript(ahead))
		}
		answers = append(answers, answer)
		ahead = told
	}
	return answers
}

// The document's example.
const (
	exampleScript = `new 2
new 2
view join 0 0 t0 t1
view group 0 sum 3 join 0 0 t0 t1
turn 1,10*1 2,20*2 / 1,5*1
turn / 1,7*1 2,8*1
turn 1,10*-1
read 0 1
read 1 2
read 1 3
turn 1,10*-1
keep 2
read 0 1
runs 0
merge 0 1000
runs 0
read 0 3
mean once map c0 both t0 t1
slim once both once t0 once t0
push where c0<c1 once both t0 t1
wide join 1 1 t0 t1
now
`
	exampleAnswer = `fine
fine
fine
fine
fine
fine
fine
1,10,1,5*1
end
1,12*1
2,16*1
end
2,16*1
end
less
fine
gone
4
fine
2
2,20,2,8*2
end
1*1
2*1
end
once t0
once both where c0<c1 t0 where c0<c1 t1
4
3 2
`
)

func TestDeskExample(t *testing.T) {
	if got := wantDesk(t, exampleScript); got != exampleAnswer {
		t.Errorf("the example answers\n%s", got)
	}
	answersOf(t, strings.Split(strings.TrimSuffix(exampleScript, "\n"), "\n"))
	for name, script := range map[string]string{
		"without its last newline": strings.TrimSuffix(exampleScript, "\n"),
		"with spaces":              strings.ReplaceAll(strings.ReplaceAll(exampleScript, " ", "   "), "\n", "  \n "),
		"with empty lines":         strings.ReplaceAll(exampleScript, "\n", "\n\n   \n"),
	} {
		if got := wantDesk(t, script); got != exampleAnswer {
			t.Errorf("the example %s answers\n%s", name, got)
		}
	}
}

func TestDeskBounds(t *testing.T) {
	if impl.DeskMaxText != 20000 || impl.DeskMaxLines != 300 || impl.DeskMaxOut != 60000 {
		t.Error("a bound of scripts is not as it must be")
	}
}

// TestDeskEachLineAlone is of each kind of line with a store of nothing.
func TestDeskEachLineAlone(t *testing.T) {
	for line, want := range map[string]string{
		"new 1": "fine", "new 6": "fine", "new 0": "type", "new 7": "type",
		"view t0": "type", "view once both t0 t0": "type",
		"turn": "none", "turn 1*1": "none", "turn /": "none",
		"keep 0": "fine", "keep 1": "none",
		"merge 0 0": "none", "merge 0 5": "none", "merge 1 0": "none",
		"read 0 0": "none", "read 0 1": "none", "read 1 0": "none",
		"table 0": "what", "runs 0": "what", "now": "0 0",
		"slim t0": "t0", "slim once once t0": "once t0", "slim once both t0 t0": "once t0", "slim once both t0 t1": "once both t0 t1",
		"push t0": "t0", "push where c0<c1 once t0": "once where c0<c1 t0", "push where c0<c1 t0": "where c0<c1 t0",
		"wide t0": "-1", "wide map #1 t0": "-1", "mean t0": "big", "mean once t2": "big",
	} {
		wantAnswer(t, line, want)
		wantAnswer(t, line+"\n", want)
		wantAnswer(t, "now\n"+line+"\nnow\n", "0 0", want, "0 0")
	}
}

// deskAhead is a script that has two tables, two views and three times, of which the first one is forgotten; all of it is fine.
const deskAhead = "new 2\nnew 1\nview group 0 sum 1 t0\nturn 1,5*2 2,6*1\nview both map c0 t0 t1\nturn 1,5*-1 / 9*1\nturn\nkeep 1\n"

// deskAll asks for all that a script has behind deskAhead, and that it goes on.
const deskAll = "now\ntable 0\ntable 1\ntable 2\nread 0 0\nread 0 1\nread 0 2\nread 0 3\nread 0 4\nread 1 0\nread 1 1\nread 1 2\nread 1 3\nread 2 3\nruns 0\nruns 1\nruns 2\nnew 3\nturn 3,3*1 / / 1,2,3*1\nread 0 4\nread 1 4\ntable 2\nview t2\nview t2\nnow\n"

// askedAhead is what deskAhead answers.
const askedAhead = "fine\nfine\nfine\nfine\nfine\nfine\nfine\nfine\n"

func TestDeskEachLineAmongOthers(t *testing.T) {
	wantAnswer(t, deskAhead+deskAll, strings.Split(askedAhead+"3 1\n1,5*1\n2,6*1\nend\n9*1\nend\nwhat\n"+
		"gone\n1,10*1\n2,6*1\nend\n1,5*1\n2,6*1\nend\n1,5*1\n2,6*1\nend\nnone\n"+
		"gone\n1*2\n2*1\nend\n1*1\n2*1\n9*1\nend\n1*1\n2*1\n9*1\nend\nnone\n"+
		"2\n0\nwhat\nfine\nfine\n1,5*1\n2,6*1\n3,3*1\nend\n1*1\n2*1\n3*1\n9*1\nend\n1,2,3*1\nend\nfine\nbig\n4 1", "\n")...)
	for line, want := range map[string]string{
		"new 3": "fine", "view t1": "fine", "turn 3,3*1": "fine", "keep 3": "fine", "merge 0 100": "fine", "read 0 1": "1,10*1\n2,6*1\nend", "table 1": "9*1\nend", "runs 0": "2", "now": "3 1",
		"slim once group 0 sum 1 t0": "group 0 sum 1 t0", "push where c0<c1 both t0 t0": "both where c0<c1 t0 where c0<c1 t0",
		"wide join 0 0 t0 t1": "3", "wide join 0 0 join 0 0 t0 t0 join 0 0 t0 t1": "-1", "wide both t0 t1": "-1", "wide t2": "-1", "wide group - count 0 t0": "1",
		"mean join 0 0 t0 map c0,c0 t0": "1,5,1,1*1\n2,6,2,2*1\nend", "mean t1": "9*1\nend", "mean t2": "big", "mean where c0<#0 t0": "end",
	} {
		wantAnswer(t, deskAhead+line, strings.Split(askedAhead+want, "\n")...)
		wantDesk(t, deskAhead+line+"\n"+deskAll)
	}
}

// TestDeskCodes has each word of a code in each way there is to it.
func TestDeskCodes(t *testing.T) {
	full := "turn " + impl.ZText(many(0, 100, 1)) + "\n"
	for script, want := range map[string]string{
		"new 1\nview t0\nturn 1*1\nkeep 1\nmerge 0 9": "fine",
		// More lists than tables; no such view; times that have not come.
		"turn 1*1": "none", "new 1\nturn 1*1 / 1*1": "none", "new 1\nnew 1\nnew 1\nturn / / /": "none",
		"new 1\nread 0 0": "none", "new 1\nview t0\nread 1 0": "none", "new 1\nview t0\nread 0 1": "none", "new 1\nview t0\nturn\nturn\nread 0 3": "none",
		"keep 1": "none", "new 1\nturn 1*1\nkeep 2": "none", "merge 0 1": "none", "new 1\nview t0\nmerge 1 1": "none",
		// Wides, and plans that have none.
		"new 0": "type", "new 7": "type", "new 1\nnew 1\nnew 1\nnew 7": "type",
		"view t0": "type", "new 1\nview t1": "type", "new 1\nview map c1 t0": "type", "new 1\nnew 2\nview both t0 t1": "type", "new 4\nview join 0 0 t0 t0": "type",
		"new 1\nturn 1,1*1": "type", "new 2\nnew 1\nturn 1,1*1 / 1,1*1": "type", "new 2\nturn 1*-1": "type",
		// Rows that are not there.
		"new 1\nturn 1*-1": "less", "new 1\nturn 1*2\nturn 1*-3": "less", "new 1\nnew 1\nturn 1*1 / 1*-1": "less", "new 1\nturn 1*10000\nturn 1*1 2*-1": "less",
		// Times that are forgotten, and such as were ahead of a view.
		"new 1\nview t0\nturn\nkeep 1\nread 0 0": "gone", "new 1\nturn\nkeep 1\nkeep 0": "gone", "new 1\nturn\nview t0\nread 0 0": "gone", "new 1\nturn\nturn\nview t0\nturn\nkeep 3\nread 0 2": "gone",
		// Too many tables, views, times; too much in a table, in a view, on the way to one.
		"new 1\nnew 1\nnew 1\nnew 1": "big", "new 1\nview t0\nview t0\nview t0\nview t0": "big", "new 1\n" + strings.Repeat("turn\n", 41): "big",
		"new 1\nturn 1*10000\nturn 1*1": "big", "new 1\n" + full + "turn 100*1": "big", "new 1\nturn 1*5001\nview both t0 t0": "big", "new 1\nview both t0 t0\nturn 1*5001": "big",
		"new 2\nview group - sum 1 t0\nturn 1,1000000000*2": "big", "new 1\nview join 0 0 t0 t0\nturn 1*101": "big", "new 1\n" + full + "new 1\nview both t0 t1\nturn / 100*1": "big",
		"mean t0": "big", "new 1\nmean t1": "big", "new 1\nturn 1*5001\nmean both t0 t0": "big", "new 1\nturn 1000000000*1\nmean map c0+c0 t0": "big", "new 1\nturn 1*1\nmean map c1 t0": "big",
	} {
		got := wantDesk(t, script)
		if !strings.HasSuffix("\n"+got, "\n"+want+"\n") {
			t.Errorf("%s\nanswers\n%s\nwant %s at its end", shownScript(script), got, want)
		}
		// With a code nothing is done.
		lines := strings.Split(strings.TrimSuffix(script, "\n"), "\n")
		if want != "fine" {
			ahead, all := scriptOf(lines[:len(lines)-1]...), "now\ntable 0\ntable 1\ntable 2\nruns 0\nruns 1\nruns 2\nread 0 1\nread 1 0\nread 2 0\nturn 2*1\nnew 1\nview t0\nnow\n"
			before := strings.TrimPrefix(impl.DeskRun(ahead+all), impl.DeskRun(ahead))
			after := strings.TrimPrefix(wantDesk(t, script+"\n"+all), got)
			if before != after {
				t.Errorf("%s\nhas done something:\n%s\nwant\n%s", shownScript(script), after, before)
			}
		}
	}
}

func TestDeskLinesOfItems(t *testing.T) {
	wantAnswer(t, "new 3\nview t0\ntable 0\nread 0 0\nmean t0", "fine", "fine", "end", "end", "end")
	wantAnswer(t, "new 3\nview t0\nturn 1,-2,0*7\ntable 0\nread 0 1\nmean t0", "fine", "fine", "fine", "1,-2,0*7", "end", "1,-2,0*7", "end", "1,-2,0*7", "end")
	wantAnswer(t, "new 1\nturn -1000000000*10000 -1*1 0*2 1000000000*3\ntable 0\nmean map c0,#-5 t0", "fine", "fine",
		"-1000000000*10000", "-1*1", "0*2", "1000000000*3", "end", "-1000000000,-5*10000", "-1,-5*1", "0,-5*2", "1000000000,-5*3", "end")
	lines := strings.Fields(impl.ZText(many(-50, 100, 10000)))
	wantAnswer(t, "new 1\nview t0\nturn "+strings.Join(lines, " ")+"\ntable 0\nread 0 1\nread 0 0\nmean t0",
		slices.Concat([]string{"fine", "fine", "fine"}, lines, []string{"end"}, lines, []string{"end", "end"}, lines, []string{"end"})...)
	// Rows come in the order of their cells, not of their texts.
	wantAnswer(t, "new 1\nturn 10*1\nturn 9*1\nturn -9*1\nturn -10*1\ntable 0", "fine", "fine", "fine", "fine", "fine", "-10*1", "-9*1", "9*1", "10*1", "end")
}

func TestDeskLists(t *testing.T) {
	tables := "new 1\nnew 1\nnew 1\nturn 1*5 / 2*5 / 3*5\n"
	all := "table 0\ntable 1\ntable 2\nnow\n"
	for line, want := range map[string]string{
		"turn": "fine\n1*5\nend\n2*5\nend\n3*5\nend\n2 0", "turn /": "fine\n1*5\nend\n2*5\nend\n3*5\nend\n2 0", "turn / /": "fine\n1*5\nend\n2*5\nend\n3*5\nend\n2 0",
		"turn / / /": "none\n1*5\nend\n2*5\nend\n3*5\nend\n1 0", "turn 1*1 / / / 1*1": "none\n1*5\nend\n2*5\nend\n3*5\nend\n1 0", "turn / / / /": "none\n1*5\nend\n2*5\nend\n3*5\nend\n1 0",
		"turn 1*1": "fine\n1*6\nend\n2*5\nend\n3*5\nend\n2 0", "turn 1*1 /": "fine\n1*6\nend\n2*5\nend\n3*5\nend\n2 0", "turn 1*1 / /": "fine\n1*6\nend\n2*5\nend\n3*5\nend\n2 0",
		"turn / 2*1": "fine\n1*5\nend\n2*6\nend\n3*5\nend\n2 0", "turn / 2*1 /": "fine\n1*5\nend\n2*6\nend\n3*5\nend\n2 0", "turn / / 3*1": "fine\n1*5\nend\n2*5\nend\n3*6\nend\n2 0",
		"turn 1*1 / / 3*-5": "fine\n1*6\nend\n2*5\nend\nend\n2 0", "turn 0*1 1*-5 / 2*1 7*1 / 1*1 3*-1": "fine\n0*1\nend\n2*6\n7*1\nend\n1*1\n3*4\nend\n2 0",
		"turn   /   2*1   4*1   /  ": "fine\n1*5\nend\n2*6\n4*1\nend\n3*5\nend\n2 0", "turn 1*1 / 2*-6": "less\n1*5\nend\n2*5\nend\n3*5\nend\n1 0", "turn 1*1 / 2*1 / 3,3*1": "type\n1*5\nend\n2*5\nend\n3*5\nend\n1 0",
		// Signs that are in a word part no lists.
		"turn 1*1/2*1": "what\n1*5\nend\n2*5\nend\n3*5\nend\n1 0", "turn //": "what\n1*5\nend\n2*5\nend\n3*5\nend\n1 0", "turn 1*1 // 3*1": "what\n1*5\nend\n2*5\nend\n3*5\nend\n1 0", "turn /1*1": "what\n1*5\nend\n2*5\nend\n3*5\nend\n1 0", "turn/ 1*1": "what\n1*5\nend\n2*5\nend\n3*5\nend\n1 0",
		// What is no items is seen ahead of there being too many lists.
		"turn / / / / 1": "what\n1*5\nend\n2*5\nend\n3*5\nend\n1 0", "turn 1 / / / /": "what\n1*5\nend\n2*5\nend\n3*5\nend\n1 0",
	} {
		wantAnswer(t, tables+line+"\n"+all, strings.Split("fine\nfine\nfine\nfine\n"+want, "\n")...)
	}
	// As many lists as there are tables, one more, and one fewer.
	for count := range 4 {
		ahead := strings.Repeat("new 1\n", count)
		for words := range 6 {
			lists := strings.TrimSuffix(strings.Repeat("1*1 / ", words+1), " / ")
			want := "fine"
			if words+1 > count {
				want = "none"
			}
			wantAnswer(t, ahead+"turn "+lists, append(slices.Repeat([]string{"fine"}, count), want)...)
			wantAnswer(t, ahead+"turn "+strings.Repeat("/ ", words), append(slices.Repeat([]string{"fine"}, count), want)...)
		}
	}
}

// TestDeskOfATableNotTurned has a table of which nothing is turned, in views of both, while the other one is.
func TestDeskOfATableNotTurned(t *testing.T) {
	wantAnswer(t, "new 1\nnew 1\nview join 0 0 t0 t1\nview both t0 t1\nview once t1\nturn 1*2 / 1*3\nturn / 2*1\nturn 2*1\nturn 1*-1 /\nturn /\nturn\nread 0 1\nread 0 2\nread 0 3\nread 0 4\nread 0 6\nread 1 4\nread 2 2\nread 2 6\ntable 0\ntable 1\nnow",
		"fine", "fine", "fine", "fine", "fine", "fine", "fine", "fine", "fine", "fine", "fine",
		"1,1*6", "end", "1,1*6", "end", "1,1*6", "2,2*1", "end", "1,1*3", "2,2*1", "end", "1,1*3", "2,2*1", "end",
		"1*4", "2*2", "end", "1*1", "2*1", "end", "1*1", "2*1", "end", "1*1", "2*1", "end", "1*3", "2*1", "end", "6 0")
	// A table that is never turned has no rows, and no runs are kept of it.
	wantAnswer(t, "new 1\nnew 2\nview join 0 0 t0 t1\nturn 1*1\nturn 2*1\ntable 1\nmean t1\nmean join 0 0 t0 t1\nread 0 2\nruns 0\nmerge 0 9\nruns 0\nturn / 2,3*1\nread 0 3\nruns 0",
		"fine", "fine", "fine", "fine", "fine", "end", "end", "end", "end", "2", "fine", "1", "fine", "2,2,3*1", "end", "2")
	// Forty times at which nothing is turned are times all the same.
	wantAnswer(t, "new 1\nview t0\n"+strings.Repeat("turn\n", 41)+"now\nread 0 40\nread 0 41\nruns 0",
		slices.Concat(slices.Repeat([]string{"fine"}, 42), []string{"big", "40 0", "end", "none", "0"})...)
}

func TestDeskOfWhatIsNotThere(t *testing.T) {
	for line, want := range map[string]string{
		"read 2 3": "none", "read 3 3": "none", "read 1000000 0": "none", "read 2 1000000": "none", "read 2 0": "none", "read 0 4": "none", "read 0 1000000": "none", "read 0 0": "gone", "read 1 0": "gone",
		"merge 2 5": "none", "merge 2 0": "none", "merge 3 5": "none", "merge 1000000 1000000": "none", "keep 4": "none", "keep 1000000": "none", "keep 0": "gone",
		"table 2": "what", "table 3": "what", "table 1000000": "what", "runs 2": "what", "runs 3": "what", "runs 1000000": "what",
		"mean t2": "big", "wide t2": "-1", "view t2": "type", "mean join 0 0 t0 t2": "big", "wide once t2": "-1",
		"mean where c2<#1 t0": "big", "mean join 0 1 t0 t1": "big", "wide where c2<#1 t0": "-1", "view where c2<#1 t0": "type",
		// MeanOf asks for no wides: rows that are not as wide as one another can be told.
		"mean both t0 t1": "1,5*1\n2,6*1\n9*1\nend", "wide both t0 t1": "-1", "view both t0 t1": "type",
	} {
		wantAnswer(t, deskAhead+line, strings.Split(askedAhead+want, "\n")...)
		// Nothing is done.
		got := strings.TrimPrefix(wantDesk(t, deskAhead+line+"\n"+deskAll), askedAhead+want+"\n")
		if was := strings.TrimPrefix(wantDesk(t, deskAhead+deskAll), askedAhead); got != was {
			t.Errorf("behind %q there is\n%s\nwant\n%s", line, got, was)
		}
	}
}

func TestDeskPlansThatStay(t *testing.T) {
	for _, text := range []string{
		"t0", "t1", "t2", "once t0", "once both t0 t1", "both t0 t0", "where c0<c1 t0", "where c0<c1 where c0=c1 t0", "map c0,#-5,c1+c2 t0", "join 0 5 t0 t1", "group - count 0 t0", "group 5,0,1 most 3 t2", "where !c0=#0 map c0 t0",
		impl.PlanText(longestPlan()), "once map c0 once t0",
	} {
		wantAnswer(t, "slim "+text+"\npush "+text, text, text)
	}
	much := "where c0<c1 both both t0 t1 both t0 t1"
	wantAnswer(t, "push "+much, much)
	wantAnswer(t, "slim where c0<c1 both t0 t1\npush once both t0 t0", "where c0<c1 both t0 t1", "once both t0 t0")
}

// wrongLines is lines that are none.
func wrongLines() []string {
	lines := []string{
		"fly", "what", "end", "fine", "/", "0", "1*1", "t0", "once t0", "long", "full", "#", "-", "*", ",",
		"New 2", "NEW 2", "new2", "new,2", "news 2", "ne 2", "neww 2", "nownow", "now,", "Now", "no", "turns 1,1*1", "Turn 1,1*1", "viewt0", "views t0", "slimt0", "reads 0 0", "store", "help", "quit",
		"new", "new 2 2", "new 2 t0", "new t0", "new two", "new 2,", "new #2", "new / 2", "new 2 /",
		"view", "view fly", "view t3", "view 0", "view t0 t1", "view once", "view both t0", "view t0 /", "view / t0", "view where c0<c6 t0", "view once once once once once once t0", "view where c0 < c1 t0", "view both both t0 t0 both t0 both t0 both t0 t0 t0", "view both both both t0 t1 both t0 t1 both both t0 t1 t1",
		"turn 1", "turn 1,1", "turn 1,1*", "turn *1", "turn 1,1*0", "turn 1,1*01", "turn 1,1*+1", "turn 01,1*1", "turn 1,1*10001", "turn 1,1*-10001", "turn 1000000001,1*1", "turn 2,1*1 1,1*1", "turn 1,1*1 1,1*1", "turn 1,1*1 fly", "turn t0", "turn 1,1 *1", "turn 1, 1*1", "turn 1,1* 1", "turn 1,1*1 / fly", "turn fly /", "turn -", "turn 0", "turn 1,1*1 , 2,2*1", "turn 1,1*1 | 2*1", "turn 1,1,1,1,1,1,1*1", "turn \\", "turn / 1*1 2", "turn -0,1*1", "turn " + impl.ZText(many(0, 101, 1)),
		"keep", "keep 2 2", "keep now", "keep t", "keep /",
		"merge", "merge 0", "merge 0 5 5", "merge 0 /", "merge all", "merge 0 all", "merge / 0 5",
		"read", "read 0", "read 0 1 2", "read 0 now", "read t0 1", "read / 0 1", "read 0,1", "read 0 / 1",
		"table", "table 0 0", "table t0", "table 2", "table 0,1", "table /",
		"runs", "runs 0 0", "runs 2", "runs all", "runs t0",
		"now 0", "now now", "now /", "now 1 0",
		"slim", "slim fly", "slim once", "slim t0 t0", "slim once t3", "slim 1", "slim once once once once once once t0", "slim both both both t0 t1 both t0 t1 both both t0 t1 t1",
		"push", "push fly", "push where t0", "push where c0<c1", "push where c0<c1 t0 t1", "push where c0<c1 /",
		"wide", "wide fly", "wide 2", "wide t0 t1", "wide t3", "mean", "mean fly", "mean t0 t1", "mean t3", "mean 0", "mean 1,1*1",
	}
	// A number that is none, at each place of a number.
	for _, n := range wrongNumbers() {
		lines = append(lines, "new "+n, "keep "+n, "table "+n, "runs "+n, "merge "+n+" 5", "merge 0 "+n, "read "+n+" 1", "read 0 "+n)
	}
	// Bytes that are no letters, and signs that look like spaces, in each line.
	for _, sign := range []string{"\t", "\r", "\v", "\f", "\x00", "\x1f", "\x7f", "\x85", "\xa0", "\xff", "\xc3", "\xed\xa0\x80", "\xf4\x90\x80\x80", "\u00a0", "\u2003", "\u3000", "\u2028", "\u0085", "\ufeff", "\u0661", "\U0001f600"} {
		for _, line := range []string{"new 2", "keep 2", "merge 0 5", "read 0 1", "table 0", "runs 0", "view t0", "slim t0", "push t0", "wide t0", "mean t0", "turn 1,1*1", "turn 1,1*1 / 1*1"} {
			at := strings.IndexByte(line, ' ')
			lines = append(lines, line+sign, sign+line, line+" "+sign, sign+" "+line, line[:at]+sign+line[at+1:], line[:at]+sign+line[at:], line[:at+1]+sign+line[at+1:])
		}
		lines = append(lines, sign, "now"+sign, sign+"now", "now "+sign, "n"+sign+"ow", "turn "+sign, "turn / "+sign, "turn /"+sign, "turn "+sign+"/")
	}
	return lines
}

func wrongNumbers() []string {
	return []string{
		"-1", "+1", "-0", "+0", "00", "01", "007", "1000001", "1000010", "9999999", "01000000", "10000000", "-1000000", "2147483648", "4294967296", "4294967297", "9223372036854775807", "9223372036854775808", "18446744073709551616", "18446744073709551617", strings.Repeat("9", 100), strings.Repeat("0", 100),
		"1.0", "1e3", "1e0", "0x1", "0b1", "0o1", "1_0", "1,", ",1", "1;", "1n", "n1", "#1", "t0", "one", "-", "+", "--1", "1-", "1*1", "\u0661", "\uff11", "\u00b2", "\"1\"", "'1'", "(1)", "1/", "/1", "/",
	}
}

// TestDeskWhat has lines that are none among others: of each the answer is what, and nothing is done.
func TestDeskWhat(t *testing.T) {
	was := strings.TrimPrefix(wantDesk(t, deskAhead+deskAll), askedAhead)
	for _, line := range wrongLines() {
		wantAnswer(t, line, "what")
		if got, want := impl.DeskRun(deskAhead+line+"\n"+deskAll), askedAhead+"what\n"+was; got != want {
			t.Fatalf("with %q it is\n%s\nwant\n%s", line, got, want)
		}
	}
	// All of them at once, as many as there can be.
	lines := wrongLines()
	for len(lines) > 0 {
		count := min(len(lines), 200)
		script := deskAhead + scriptOf(lines[:count]...) + deskAll
		if len(script) <= 20000 {
			if got, want := impl.DeskRun(script), askedAhead+strings.Repeat("what\n", count)+was; got != want {
				t.Fatalf("%s\nis\n%s", shownScript(script), shownScript(got))
			}
		}
		lines = lines[count:]
	}
}

func TestDeskNumbers(t *testing.T) {
	for line, want := range map[string]string{
		"new 0": "type", "new 1": "fine", "new 6": "fine", "new 7": "type", "new 10": "type", "new 999999": "type", "new 1000000": "type", "new 1000001": "what",
		"keep 0": "gone", "keep 1": "fine", "keep 3": "fine", "keep 4": "none", "keep 1000000": "none", "keep 1000001": "what",
		"merge 0 0": "fine", "merge 0 1000000": "fine", "merge 1 1000000": "fine", "merge 2 0": "none", "merge 1000000 0": "none", "merge 1000001 0": "what", "merge 0 1000001": "what",
		"read 0 3": "1,5*1\n2,6*1\nend", "read 0 10": "none", "read 0 1000000": "none", "read 1000000 3": "none", "read 1000001 3": "what", "read 0 1000001": "what", "read 10 3": "none",
		"table 0": "1,5*1\n2,6*1\nend", "table 1000000": "what", "table 1000001": "what", "runs 0": "2", "runs 1": "0", "runs 1000000": "what", "runs 1000001": "what",
	} {
		wantAnswer(t, deskAhead+line, strings.Split(askedAhead+want, "\n")...)
	}
	for _, n := range append(wrongNumbers(), "0", "1", "2", "3", "10", "19", "100", "999999", "1000000") {
		for _, line := range []string{"new ", "keep ", "table ", "runs ", "merge 0 ", "read 0 ", "merge ", "read "} {
			wantDesk(t, deskAhead+line+n)
			wantDesk(t, deskAhead+line+n+" 0")
		}
	}
}

func TestDeskSpacesAndLines(t *testing.T) {
	for script, want := range map[string]string{
		"": "", "\n": "", "\n\n\n": "", " ": "", "   ": "", " \n": "", "\n ": "", "  \n   \n \n": "",
		"now": "0 0\n", "now\n": "0 0\n", " now": "0 0\n", "now ": "0 0\n", "  now  ": "0 0\n", "  now  \n": "0 0\n", "\nnow": "0 0\n", "\n\n now\n\n": "0 0\n", "now\n ": "0 0\n",
		"now\nnow": "0 0\n0 0\n", "now\n\nnow\n": "0 0\n0 0\n", "now\n   \nnow": "0 0\n0 0\n", " now \n now ": "0 0\n0 0\n",
		"new 2": "fine\n", "new    2": "fine\n", "   new    2   ": "fine\n", "new\n2": "what\nwhat\n", "new 2 \n": "fine\n", "n ew 2": "what\n", "no w": "what\n",
		"slim    once   once    t0   ": "once t0\n", "  push where  c0<c1   once t0": "once where c0<c1 t0\n", "slim once\nt0": "what\nwhat\n",
		"new 1\nturn   1*1    2*1  \ntable   0": "fine\nfine\n1*1\n2*1\nend\n", "new 1\nnew 1\n  turn   /   1*1": "fine\nfine\nfine\n",
		"now\r\nnow": "what\n0 0\n", "now\tnow": "what\n", "\tnow": "what\n", "now\t": "what\n", "\t": "what\n", "now\x00": "what\n", "now\u00a0": "what\n", "\ufeffnow": "what\n", "now\u2028now": "what\n", "now\vnow": "what\n", "now\fnow": "what\n", "\r": "what\n", "\r\n": "what\n",
	} {
		if got := wantDesk(t, script); got != want {
			t.Errorf("%q answers %q; want %q", script, got, want)
		}
	}
}

// TestDeskNoLetters is of texts that are no good UTF-8: a newline and a space behind such bytes are what they are.
func TestDeskNoLetters(t *testing.T) {
	for b := range 256 {
		sign := string([]byte{byte(b)})
		for _, script := range []string{sign, sign + "now", "now" + sign, "now" + sign + "now", "now " + sign + " now", "now\n" + sign + "\nnow", sign + "\nnow", sign + " \nnow", "new" + sign + "2", "new 2" + sign, "new 2\nturn 1,1*1" + sign + "2,2*1\ntable 0", "new 2\nmean" + sign + "t0"} {
			wantDesk(t, script)
		}
	}
	for _, bad := range []string{"\xc3", "\xe3", "\xe3\x81", "\xf0\x9f", "\xf0\x9f\x98", "\x80", "\xbf\xbf", "\xed\xa0\x80", "\xc0\x80", "\xc0\xa0", "\xe0\x80\xa0", "\xc0\x8a", "\xf8\x88\x80\x80\x80", "\xfe", "\xff\xff"} {
		wantAnswer(t, bad+"\nnow", "what", "0 0")
		wantAnswer(t, bad+" now", "what")
		wantAnswer(t, "now\n"+bad, "0 0", "what")
		wantAnswer(t, "now "+bad+"\nnow", "what", "0 0")
		wantAnswer(t, "new "+bad+"\nnew 1", "what", "fine")
		wantAnswer(t, "new"+bad+"1\nnew 1", "what", "fine")
		wantAnswer(t, "new 1\nturn 1*1"+bad+"\nturn "+bad+"\nturn / "+bad+"\ntable 0\nnow", "fine", "what", "what", "what", "end", "0 0")
	}
}

func TestDeskLongTexts(t *testing.T) {
	for name, c := range map[string]struct{ unit, want string }{
		"spaces": {" ", ""}, "newlines": {"\n", ""}, "letters": {"x", "what\n"}, "no letters": {"\xff", "what\n"}, "letters of two bytes": {"\u00e9", "what\n"}, "letters of four bytes": {"\U0001f600", "what\n"},
	} {
		just := strings.Repeat(c.unit, 20000/len(c.unit))
		if got := wantDesk(t, just); got != c.want {
			t.Errorf("%s of just as many bytes: %q", name, shownScript(got))
		}
		for _, more := range []string{" ", "\n", "x", c.unit, strings.Repeat(c.unit, 20000)} {
			if wantDesk(t, just+more) != "long\n" || wantDesk(t, more+just) != "long\n" {
				t.Errorf("%s and %d bytes more are not long", name, len(more))
			}
		}
	}
	for _, fill := range []string{" ", "\n", "x", "/"} {
		for _, size := range []int{19998, 19999, 20000, 20001, 20002, 40000} {
			script := "now\nnew 1\n"
			script += strings.Repeat(fill, size-len(script))
			want := map[string]string{" ": "", "\n": ""}[fill]
			if strings.Contains("x/", fill) {
				want = "what\n"
			}
			if want = "0 0\nfine\n" + want; size > 20000 {
				want = "long\n"
			}
			if got := wantDesk(t, script); got != want {
				t.Errorf("%d bytes with %q: %q; want %q", size, fill, got, want)
			}
		}
	}
	// Long words and lists of one line.
	for _, line := range []string{"new ", "view ", "turn ", "keep ", "merge ", "read ", "table ", "runs ", "now ", "slim ", "push ", "wide ", "mean "} {
		for _, unit := range []string{"0", "1", "9 ", "/", "/ ", "t0 ", "once ", "both ", "1*1 ", "1,", "-", "c0<c1 ", "where c0<c1 ", "x ", line} {
			script := line + strings.Repeat(unit, (20000-len(line))/len(unit))
			if got := wantDesk(t, script); got != "what\n" && !(line == "turn " && unit == "/ " && got == "none\n") {
				t.Errorf("%s answers %s", shownScript(script), got)
			}
		}
	}
}

func TestDeskManyLines(t *testing.T) {
	answers := func(count int) []string { return slices.Repeat([]string{"0 0"}, count) }
	for _, empty := range []string{"\n", " \n", "     \n"} {
		for _, ahead := range []int{0, 1, 298, 299, 300, 301, 1000, 1600} {
			want := []string{"0 0"}
			if ahead >= 300 {
				want = []string{"full"}
			}
			lines := strings.Repeat(empty, ahead)
			wantAnswer(t, lines)
			wantAnswer(t, lines+"now", want...)
			wantAnswer(t, lines+"now\n", want...)
			wantAnswer(t, lines+"now\n"+lines, want...)
			wantAnswer(t, lines+"fly", map[bool]string{false: "what", true: "full"}[ahead >= 300])
		}
		// Each line counts, of whatever kind.
		wantAnswer(t, strings.Repeat("now\n"+empty, 150)+"now", append(answers(150), "full")...)
		wantAnswer(t, strings.Repeat("now\n"+empty, 149)+"now\nnow", answers(151)...)
		wantAnswer(t, strings.Repeat("now\n"+empty, 149)+"now\nnow\nnow", append(answers(151), "full")...)
		wantAnswer(t, "now\n"+strings.Repeat(empty, 298)+"now\n"+empty, answers(2)...)
		wantAnswer(t, "now\n"+strings.Repeat(empty, 299)+"now\n", "0 0", "full")
		wantAnswer(t, strings.Repeat("now\n", 300)+strings.Repeat(empty, 100), answers(300)...)
		wantAnswer(t, strings.Repeat("now\n", 300)+strings.Repeat(empty, 100)+"now\n", append(answers(300), "full")...)
	}
	for count := 295; count < 305; count++ {
		want := answers(min(count, 300))
		if count > 300 {
			want = append(want, "full")
		}
		wantAnswer(t, strings.Repeat("now\n", count), want...)
		wantAnswer(t, strings.TrimSuffix(strings.Repeat("now\n", count), "\n"), want...)
		wantAnswer(t, strings.Repeat("fly\n", count), strings.Split(strings.TrimSuffix(strings.ReplaceAll(scriptOf(want...), "0 0", "what"), "\n"), "\n")...)
	}
	// Nothing is done behind it, nor answered a second time.
	wantAnswer(t, strings.Repeat("\n", 300)+"new 2\nnow\nfly\n", "full")
	wantAnswer(t, strings.Repeat("\n", 298)+"new 2\nnew 2\nnew 2\nnew 2\n", "fine", "fine", "full")
}

// wideRows is a table of 100 rows of 6 cells, each of which takes 74 bytes with the end of its line.
func wideRows() []impl.Item {
	var z []impl.Item
	for i := range 100 {
		z = append(z, impl.Item{Row: append([]int{-999999900 + i}, slices.Repeat([]int{-1000000000}, 5)...), W: 10})
	}
	return z
}

// filling is lines that answer just so many bytes, the last one 5 of them; there must be 7 at least, behind a table of 6 cells and one time.
func filling(size int) string {
	fives := (size - 2) / 5
	return []string{"wide t0\n", "wide t1\n", "now\n", "fly\n", "now\nwide t0\n"}[size-2-fives*5] + strings.Repeat("fly\n", fives)
}

func TestDeskMuchAnswered(t *testing.T) {
	ahead := "new 6\nturn " + impl.ZText(wideRows()) + "\n" + strings.Repeat("table 0\n", 8)
	told := len(wantDesk(t, ahead))
	if told != 10+8*7404 {
		t.Fatal("it answers", told, "bytes")
	}
	for size := 59990; size <= 60005; size++ {
		script := ahead + filling(size-told)
		answer := wantDesk(t, script)
		if len(answer) != size {
			t.Fatalf("it answers %d bytes; want %d", len(answer), size)
		}
		next := map[bool]string{false: "1 0\n", true: "full\n"}[size > 60000]
		for line, want := range map[string]string{"": "", "\n": "", "   ": "", "\n  \n\n": "", "now": next, "now\n": next, "\n\n  now": next} {
			if got := wantDesk(t, script+line); got != answer+want {
				t.Errorf("%q behind %d bytes answers %q; want %q", line, size, strings.TrimPrefix(got, answer), want)
			}
		}
		// What is answered ahead of a line counts, not what it answers itself.
		got := strings.TrimPrefix(wantDesk(t, script+"table 0\nnow\nnow"), answer)
		want := linesByForm(wideRows()) + "\nfull\n"
		if size > 60000 {
			want = "full\n"
		}
		if got != want {
			t.Errorf("much behind %d bytes answers %d more; want %d", size, len(got), len(want))
		}
	}
	// Both bounds at once: it is full once.
	wantAnswer(t, strings.Repeat("\n", 310)+"now\nnow", "full")
	got := wantDesk(t, ahead+"table 0\n"+strings.Repeat("\n", 300)+"now\nnow\n")
	if !strings.HasSuffix(got, "end\nfull\n") || strings.Count(got, "full") != 1 {
		t.Error("it is full", strings.Count(got, "full"), "times")
	}
}

// scripter makes lines, most of which can be done: it has a clerk who knows the store by then.
type scripter struct {
	rand  *rand.Rand
	clerk clerk
	lines []string
	told  []string
}

// add is a line more.
func (s *scripter) add(line string) {
	words := strings.Fields(line)
	s.lines = append(s.lines, line)
	s.told = append(s.told, s.clerk.answer(words[0], words[1:])+"\n")
}

// number is one of 0 to most, or one that is too great.
func (s *scripter) number(most int) int {
	if s.rand.Intn(10) == 0 {
		return []int{most + 1, most + 2, 1000000}[s.rand.Intn(3)]
	}
	return s.rand.Intn(most + 1)
}

func (s *scripter) plan() string {
	if s.rand.Intn(2) == 0 {
		return textByForm(slimPlan(s.rand, 1+s.rand.Intn(3)))
	}
	return textByForm(somePlan(s.rand, 1+s.rand.Intn(3)))
}

// some is a line of any kind; plans may be too much to be written.
func (s *scripter) some() string {
	store := s.clerk.store
	view := s.number(max(0, len(store.Views)-1))
	switch s.rand.Intn(18) {
	case 0:
		return fmt.Sprint("new ", s.number(3))
	case 1:
		return "view " + s.plan()
	case 2, 3, 4, 5, 6:
		return strings.TrimSpace("turn " + listsText(someBatch(s.rand, store)))
	case 7:
		return fmt.Sprint("keep ", s.number(min(store.Now, store.Keep+1)))
	case 8:
		return fmt.Sprint("merge ", view, " ", s.rand.Intn(30))
	case 9, 10:
		return fmt.Sprint("read ", view, " ", s.number(store.Now))
	case 11:
		return fmt.Sprint("table ", s.number(max(0, len(store.Tables)-1)))
	case 12, 13, 14:
		return fmt.Sprint("runs ", view)
	case 15:
		return []string{"slim ", "push "}[s.rand.Intn(2)] + s.plan()
	case 16:
		return []string{"wide ", "mean "}[s.rand.Intn(2)] + s.plan()
	}
	return []string{"now", "fly", "new", "turn 1", "turn / / / /", "now 1", "table 3", "view t3"}[s.rand.Intn(8)]
}

// someScript has tables and views ahead of the others, so that there is something to be told.
func someScript(r *rand.Rand, count int) *scripter {
	s := &scripter{rand: r}
	for range 1 + r.Intn(3) {
		s.add(fmt.Sprint("new ", 1+r.Intn(2)))
	}
	for range r.Intn(4) {
		s.add("view " + s.plan())
	}
	for range count {
		s.add(s.some())
	}
	return s
}

// wantLines holds what each line answers against what a clerk told of it.
func wantLines(t *testing.T, s *scripter) {
	t.Helper()
	for i, answer := range answersOf(t, s.lines) {
		if answer != s.told[i] {
			t.Fatalf("%s\nanswers\n%s\nat its end; want\n%s", shownScript(scriptOf(s.lines[:i+1]...)), answer, s.told[i])
		}
	}
}

// TestDeskLineByLine is promise 11: a script that is cut behind any line answers what the whole begins with, and the others answer what they do behind it.
func TestDeskLineByLine(t *testing.T) {
	r := rand.New(rand.NewSource(111))
	words, answered := map[string]int{}, map[string]int{}
	for range 250 {
		s := someScript(r, 30)
		wantLines(t, s)
		for i, line := range s.lines {
			words[strings.Fields(line)[0]]++
			answered[strings.TrimSuffix(s.told[i], "\n")]++
		}
		whole := scriptOf(s.lines...)
		want := strings.Join(s.told, "")
		// However lines are parted and spaced, the answer is the same.
		for _, script := range []string{whole, strings.TrimSuffix(whole, "\n"), "\n \n" + whole + "\n", strings.ReplaceAll(whole, " ", "  "), strings.ReplaceAll(whole, "\n", " \n\n ")} {
			if got := wantDesk(t, script); got != want {
				t.Fatalf("%s\nanswers\n%s\nwant\n%s", shownScript(script), got, want)
			}
		}
	}
	for _, word := range strings.Fields("new view turn keep merge read table runs now slim push wide mean") {
		if words[word] < 50 {
			t.Error("too few lines of", word, words)
		}
	}
	for _, word := range strings.Fields("fine none type less gone big what end") {
		if answered[word] < 50 {
			t.Error("too few answers", word, answered)
		}
	}
	if answered["form"] > 0 {
		t.Error("the store of a script is always ok")
	}
}

// TestDeskMergesAnywhere is the other half of promise 11: with lines put in that merge, the others answer the same, but for how many runs there are.
func TestDeskMergesAnywhere(t *testing.T) {
	r := rand.New(rand.NewSource(112))
	merged, fewer := 0, 0
	for range 250 {
		s := someScript(r, 30)
		plain := answersOf(t, s.lines)
		some, other := wantMergedSame(t, s.lines, plain, func(i int) []string {
			var merges []string
			for range r.Intn(3) {
				merges = append(merges, fmt.Sprint("merge ", r.Intn(3), " ", []int{0, 1, 5, 20, 1000, 1000000}[r.Intn(6)]))
			}
			return merges
		})
		merged, fewer = merged+some, fewer+other
	}
	if merged < 1000 || fewer < 100 {
		t.Error("too little was merged:", merged, fewer)
	}
}

// TestDeskMergesTheExample puts a line that merges at each place of the example, and at all of them.
func TestDeskMergesTheExample(t *testing.T) {
	lines := strings.Split(strings.TrimSuffix(exampleScript, "\n"), "\n")
	plain := answersOf(t, lines)
	for _, fuel := range []int{0, 1, 2, 3, 4, 5, 8, 1000000} {
		for view := range 2 {
			merge := []string{fmt.Sprint("merge ", view, " ", fuel)}
			for at := range lines {
				wantMergedSame(t, lines, plain, func(i int) []string { return merge[:map[bool]int{true: 1}[i == at]] })
			}
			wantMergedSame(t, lines, plain, func(i int) []string { return merge })
		}
	}
}

// wantMergedSame puts lines that merge ahead of each line: how many of them were fine, and how many lines told of fewer runs.
func wantMergedSame(t *testing.T, lines []string, plain []string, mergesAhead func(i int) []string) (merged int, fewer int) {
	t.Helper()
	var mixed []string
	var at []int
	for i, line := range lines {
		mixed = append(mixed, mergesAhead(i)...)
		at = append(at, len(mixed))
		mixed = append(mixed, line)
	}
	wantDesk(t, scriptOf(mixed...))
	answers := answersOf(t, mixed)
	for i, answer := range answers {
		if !slices.Contains(at, i) && answer == "fine\n" {
			merged++
		}
	}
	for i, line := range lines {
		switch answer := answers[at[i]]; {
		case answer == plain[i]:
		case strings.HasPrefix(line, "runs "):
			fewer++
		default:
			t.Fatalf("%s\nanswers\n%s\nat its end; without merging\n%s", shownScript(scriptOf(mixed[:at[i]+1]...)), answer, plain[i])
		}
	}
	return merged, fewer
}

// TestDeskOneByteOff changes, adds and takes away every byte of the example.
func TestDeskOneByteOff(t *testing.T) {
	for at := range len(exampleScript) {
		wantDesk(t, exampleScript[:at])
		wantDesk(t, exampleScript[:at]+exampleScript[at+1:])
		for _, b := range []byte(" \n/1x\xff") {
			wantDesk(t, exampleScript[:at]+string([]byte{b})+exampleScript[at:])
			wantDesk(t, exampleScript[:at]+string([]byte{b})+exampleScript[at+1:])
		}
	}
}

// TestDeskEveryFewWords holds the program against the forms at all lines of up to 4 of some words.
func TestDeskEveryFewWords(t *testing.T) {
	words := []string{"new", "view", "turn", "keep", "merge", "read", "table", "runs", "now", "slim", "push", "wide", "mean", "0", "1", "t0", "once", "/", "1*1", "1,5*1", "fly"}
	lines := slices.Clone(words)
	for first := 0; first < len(lines); first++ {
		wantDesk(t, lines[first])
		if count := strings.Count(lines[first], " "); count < 2 || count == 2 && first%5 == 0 {
			for _, word := range words {
				lines = append(lines, lines[first]+" "+word)
			}
		}
	}
	r := rand.New(rand.NewSource(113))
	for range 3000 {
		line := lines[r.Intn(len(lines))]
		wantDesk(t, deskAhead+line+"\nnow\ntable 0\nread 0 4\nruns 0\nread 2 3\n")
	}
}

// TestDeskKeepsNothing runs scripts in turn: what one has is not there in the next one.
func TestDeskKeepsNothing(t *testing.T) {
	for range 3 {
		wantAnswer(t, "table 0\nruns 0\nnow\nnew 1\nview t0\nturn 1*1\ntable 0\nnow\nread 0 1\nruns 0", "what", "what", "0 0", "fine", "fine", "fine", "1*1", "end", "1 0", "1*1", "end", "0")
		if impl.DeskRun(exampleScript) != exampleAnswer {
			t.Fatal("the example answers something else by now")
		}
	}
}
