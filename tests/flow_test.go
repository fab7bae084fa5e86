package tests

import (
	"fmt"
	"math"
	"math/rand"
	"reflect"
	"slices"
	"strconv"
	"strings"
	"testing"

	"loop.example/milldam/impl"
)

// flowText tells plans and runs of a flow that has an end, each flow ahead of those in it.
func flowText(f impl.Flow) string {
	text := fmt.Sprintf("%s {%s / %s}", impl.PlanText(f.Plan), runsText(f.Left), runsText(f.Right))
	for _, kid := range f.Kids {
		text += "; " + flowText(kid)
	}
	return text
}

// flowRead is the flow of a plan by its text, which must be such.
func flowRead(t *testing.T, text string) impl.Flow {
	t.Helper()
	f := impl.FlowOf(planRead(t, text))
	if !impl.FlowOk(f) {
		t.Fatalf("the flow of %q is not ok: %v", text, f)
	}
	return f
}

// listsRead is a list for each table, told with a slash between; no lists of "none".
func listsRead(t *testing.T, text string) [][]impl.Item {
	t.Helper()
	if text == "none" {
		return nil
	}
	var lists [][]impl.Item
	for _, z := range strings.Split(text, "/") {
		lists = append(lists, read(t, strings.TrimSpace(z)))
	}
	return lists
}

func listsText(lists [][]impl.Item) string {
	var texts []string
	for _, z := range lists {
		texts = append(texts, impl.ZText(z))
	}
	return strings.Join(texts, " / ")
}

func copiedLists(lists [][]impl.Item) [][]impl.Item {
	return copiedRuns(impl.Spine{Runs: lists}).Runs
}

func copiedFlow(f impl.Flow) impl.Flow {
	c := impl.Flow{Plan: deepCopy(f.Plan), Left: copiedRuns(f.Left), Right: copiedRuns(f.Right)}
	for _, kid := range f.Kids {
		c.Kids = append(c.Kids, copiedFlow(kid))
	}
	return c
}

// flowAt is the flow at a place in a flow, the outer ahead of the inner; nil behind the last.
func flowAt(f *impl.Flow, at *int) *impl.Flow {
	if *at == 0 {
		return f
	}
	for i := range f.Kids {
		*at--
		if part := flowAt(&f.Kids[i], at); part != nil {
			return part
		}
	}
	return nil
}

// changedAt is a copy of a flow, the one at a place of which is changed.
func changedAt(f impl.Flow, at int, change func(part *impl.Flow)) impl.Flow {
	c := copiedFlow(f)
	change(flowAt(&c, &at))
	return c
}

// flowOfByForm, flowOkByForm, stepByForm, flowMergeByForm and flowManyByForm are what is told, said apart from the program.
func flowOfByForm(p impl.Plan) impl.Flow {
	if !writableByForm(p) {
		return impl.Flow{}
	}
	f := impl.Flow{Plan: p}
	for _, kid := range p.Kids {
		f.Kids = append(f.Kids, flowOfByForm(kid))
	}
	return f
}

func flowOkByForm(f impl.Flow) bool {
	return writableByForm(f.Plan) && flowsByForm(f)
}

// flowsByForm is only asked of flows whose plan can be written.
func flowsByForm(f impl.Flow) bool {
	if len(f.Kids) != len(f.Plan.Kids) || !areRunsByForm(f.Left) || !areRunsByForm(f.Right) {
		return false
	}
	if !slices.Contains([]int{4, 6, 7}, f.Plan.Kind) && len(f.Left.Runs) > 0 || f.Plan.Kind != 4 && len(f.Right.Runs) > 0 {
		return false
	}
	for i, kid := range f.Kids {
		if !samePlans(kid.Plan, f.Plan.Kids[i]) || !flowsByForm(kid) {
			return false
		}
	}
	return true
}

// samePlans says, apart from the program, whether two plans that have an end are one.
func samePlans(a impl.Plan, b impl.Plan) bool {
	same := a.Kind == b.Kind && a.N == b.N && a.Test == b.Test && a.A == b.A && a.B == b.B && a.Agg == b.Agg && a.Col == b.Col
	return same && slices.Equal(a.Cells, b.Cells) && slices.Equal(a.Keys, b.Keys) && slices.EqualFunc(a.Kids, b.Kids, samePlans)
}

// sameFlows says, apart from the program, whether two flows that have an end are one.
func sameFlows(a impl.Flow, b impl.Flow) bool {
	return samePlans(a.Plan, b.Plan) && sameRuns(a.Left, b.Left) && sameRuns(a.Right, b.Right) && slices.EqualFunc(a.Kids, b.Kids, sameFlows)
}

func stepByForm(f impl.Flow, turned [][]impl.Item) (impl.Flow, []impl.Item, bool) {
	wrong := func(z []impl.Item) bool { return !okByForm(z) }
	if !flowOkByForm(f) || len(turned) > 3 || slices.ContainsFunc(turned, wrong) {
		return impl.Flow{}, nil, false
	}
	next, told, ok := turnByForm(f, turned)
	if !ok {
		return f, nil, false
	}
	return next, told, true
}

// turnByForm is only asked of flows and lists that are ok; beside a false its flow is of no use.
func turnByForm(f impl.Flow, turned [][]impl.Item) (impl.Flow, []impl.Item, bool) {
	next := impl.Flow{Plan: f.Plan}
	kids := [][]impl.Item{}
	for _, kid := range f.Kids {
		then, d, ok := turnByForm(kid, turned)
		if !ok {
			return impl.Flow{}, nil, false
		}
		next.Kids, kids = append(next.Kids, then), append(kids, d)
	}
	kids = append(kids, nil, nil)
	told, ok := deltaByForm(f, kids, turned)
	leftOk, rightOk := true, true
	if slices.Contains([]int{4, 6, 7}, f.Plan.Kind) {
		next.Left, leftOk = putByForm(f.Left, kids[0])
	}
	if f.Plan.Kind == 4 {
		next.Right, rightOk = putByForm(f.Right, kids[1])
	}
	return next, told, ok && leftOk && rightOk
}

func deltaByForm(f impl.Flow, kids [][]impl.Item, turned [][]impl.Item) ([]impl.Item, bool) {
	p, left, right := f.Plan, allByForm(f.Left), allByForm(f.Right)
	switch p.Kind {
	case 1:
		if p.N >= len(turned) {
			return nil, true
		}
		return turned[p.N], true
	case 2:
		return whereByForm(kids[0], p.Test)
	case 3:
		return mapByForm(kids[0], p.Cells)
	case 4:
		return deltaJoinByForm(left, kids[0], right, kids[1], p.A, p.B)
	case 5:
		return addByForm(kids[0], kids[1])
	case 6:
		return deltaOnceByForm(left, kids[0])
	}
	return deltaGroupByForm(left, kids[0], p.Keys, p.Agg, p.Col)
}

func flowMergeByForm(f impl.Flow, fuel int) (impl.Flow, int) {
	if !flowOkByForm(f) || fuel < 0 {
		return impl.Flow{}, 0
	}
	f = copiedFlow(f)
	for at := 0; ; at++ {
		place := at
		part := flowAt(&f, &place)
		if part == nil {
			return f, fuel
		}
		part.Left, fuel = mergeByForm(part.Left, fuel)
		part.Right, fuel = mergeByForm(part.Right, fuel)
	}
}

// flowRunsByForm is all runs of all spines of a flow that has an end.
func flowRunsByForm(f impl.Flow) [][]impl.Item {
	runs := slices.Concat(f.Left.Runs, f.Right.Runs)
	for _, kid := range f.Kids {
		runs = append(runs, flowRunsByForm(kid)...)
	}
	return runs
}

func flowManyByForm(f impl.Flow) int {
	if !flowOkByForm(f) {
		return 0
	}
	return len(flowRunsByForm(f))
}

func wantFlow(t *testing.T, what string, got impl.Flow, want impl.Flow) {
	t.Helper()
	if !sameFlows(got, want) {
		t.Fatalf("%s: %s; want %s", what, flowText(got), flowText(want))
	}
	if !impl.FlowSame(got, want) || impl.FlowOk(got) != flowOkByForm(want) || impl.FlowMany(got) != flowManyByForm(want) {
		t.Fatalf("%s: %s is not the same, ok is %v, and it has %d runs", what, flowText(got), impl.FlowOk(got), impl.FlowMany(got))
	}
}

// wantStep asks for what is told of a step.
func wantStep(t *testing.T, f impl.Flow, turned [][]impl.Item) (impl.Flow, []impl.Item, bool) {
	t.Helper()
	what := fmt.Sprintf("%v turned by %v", f, turned)
	got, told, ok := impl.FlowStep(f, turned)
	want, wantItems, wantOk := stepByForm(f, turned)
	wantTold(t, what, told, ok, wantItems, wantOk)
	wantFlow(t, what, got, want)
	return got, told, ok
}

// wantFlowMerged asks for what is told of a merging, and that each spine has what it had.
func wantFlowMerged(t *testing.T, f impl.Flow, fuel int) (impl.Flow, int) {
	t.Helper()
	what := fmt.Sprintf("%v merged with %d", f, fuel)
	got, left := impl.FlowMerge(f, fuel)
	want, wantLeft := flowMergeByForm(f, fuel)
	wantFlow(t, what, got, want)
	if left != wantLeft {
		t.Fatalf("%s: %d is left; want %d", what, left, wantLeft)
	}
	if fuel >= 0 && flowOkByForm(f) {
		wantKept(t, what, got, f)
	}
	return got, left
}

// wantKept asks that all spines of two flows have the same together.
func wantKept(t *testing.T, what string, got impl.Flow, want impl.Flow) {
	t.Helper()
	if !sameItems(impl.RunAll(got.Left), allByForm(want.Left)) || !sameItems(impl.RunAll(got.Right), allByForm(want.Right)) || len(got.Kids) != len(want.Kids) {
		t.Fatalf("%s: %s keeps other rows than %s", what, flowText(got), flowText(want))
	}
	for i := range got.Kids {
		wantKept(t, what, got.Kids[i], want.Kids[i])
	}
}

// follower is a plan, its flow, and what tables and the view are, by what was turned and told so far.
type follower struct {
	plan   impl.Plan
	flow   impl.Flow
	tables [][]impl.Item
	view   []impl.Item
}

func follow(p impl.Plan) *follower {
	return &follower{plan: p, flow: impl.FlowOf(p), tables: make([][]impl.Item, 3)}
}

// turn is wantStep; then the view must be what the plan means, wherever that can be told: whether it can be.
func (f *follower) turn(t *testing.T, turned [][]impl.Item) (ok bool, meant bool) {
	t.Helper()
	next, told, ok := wantStep(t, f.flow, turned)
	if ok {
		for n, z := range turned {
			f.tables[n], _ = sumByForm(slices.Concat(copied(f.tables[n]), copied(z)))
		}
		f.view, _ = sumByForm(slices.Concat(f.view, copied(told)))
	} else {
		wantFlow(t, "what is too much", next, f.flow)
	}
	f.flow = next
	want, meant := impl.MeanOf(f.plan, f.tables)
	if meant && !sameItems(f.view, want) {
		t.Fatalf("%s over %q: the view is %s; want %s", impl.PlanText(f.plan), listsText(f.tables), impl.ZText(f.view), impl.ZText(want))
	}
	return ok, meant
}

func TestFlowOfPlans(t *testing.T) {
	list := []impl.Plan{longestPlan(), nested(5, tableOf(1))}
	for _, p := range plainPlans() {
		list = append(list, p)
	}
	for _, p := range list {
		f := impl.FlowOf(p)
		wantFlow(t, planShown(p), f, flowOfByForm(p))
		if !impl.FlowOk(f) || impl.FlowMany(f) != 0 || !impl.PlanSame(f.Plan, p) || len(f.Kids) != len(p.Kids) {
			t.Errorf("%v: %v", p, f)
		}
		for i := range f.Kids {
			if !impl.FlowSame(f.Kids[i], impl.FlowOf(p.Kids[i])) {
				t.Errorf("%v: kid %d is %v", p, i, f.Kids[i])
			}
		}
	}
}

// noPlans is plans that can not be written, also such as have no end.
func noPlans() map[string]impl.Plan {
	bushy := tableOf(0)
	for range 100 {
		bushy = bothOf(bushy, bushy)
	}
	return map[string]impl.Plan{
		"nothing": {}, "kind 8": {Kind: 8}, "kind -1": {Kind: -1}, "table 3": tableOf(3), "table -1": tableOf(-1), "a table with a kid": {Kind: 1, Kids: []impl.Plan{tableOf(0)}}, "a table with A": {Kind: 1, A: 1},
		"once of none": {Kind: 6}, "once of two": {Kind: 6, Kids: []impl.Plan{tableOf(0), tableOf(0)}}, "both of one": {Kind: 5, Kids: []impl.Plan{tableOf(0)}}, "join of three": {Kind: 4, Kids: []impl.Plan{tableOf(0), tableOf(0), tableOf(0)}},
		"no test": whereOf(impl.Test{}, tableOf(0)), "no cells": mapOf(tableOf(0)), "join at 6": joinOf(6, 0, tableOf(1), tableOf(1)), "6 keys": groupOf([]int{0, 1, 2, 3, 4, 5}, 0, 0, tableOf(1)), "agg 4": groupOf(nil, 4, 0, tableOf(0)),
		"too deep": nested(6, tableOf(0)), "too many": bothOf(bothOf(bothOf(tableOf(0), tableOf(0)), bothOf(tableOf(0), tableOf(0))), bothOf(tableOf(0), tableOf(0))),
		"wrong further down": onceOf(bothOf(tableOf(0), onceOf(tableOf(3)))),
		"bushy":              bushy, "long": nested(100000, tableOf(0)), "round": round(onceOf(tableOf(0)), 0), "round in 3": round(onceOf(tableOf(0)), 3),
	}
}

// flowOfParts has a flow for each kid, whatever the plan is; it is only asked of plans of a few parts.
func flowOfParts(p impl.Plan) impl.Flow {
	f := impl.Flow{Plan: p}
	for _, kid := range p.Kids {
		f.Kids = append(f.Kids, flowOfParts(kid))
	}
	return f
}

func isNoFlow(f impl.Flow) bool {
	return len(f.Kids) == 0 && sameFlows(f, impl.Flow{})
}

// wantNoFlow asks all functions for what is told of a flow that is not ok.
func wantNoFlow(t *testing.T, what string, f impl.Flow) {
	t.Helper()
	if impl.FlowOk(f) || impl.FlowMany(f) != 0 {
		t.Fatalf("%s is ok, or has %d runs", what, impl.FlowMany(f))
	}
	for _, turned := range [][][]impl.Item{nil, {}, {many(1, 1, 1)}, {nil, nil, nil}, {nil, nil, nil, nil}} {
		if got, told, ok := impl.FlowStep(f, turned); ok || len(told) > 0 || !isNoFlow(got) {
			t.Fatalf("%s turned by %q: %v, %v", what, listsText(turned), told, ok)
		}
	}
	for _, fuel := range []int{math.MinInt, -1, 0, 1, 1000, math.MaxInt} {
		if got, left := impl.FlowMerge(f, fuel); left != 0 || !isNoFlow(got) {
			t.Fatalf("%s merged with %d: %d is left", what, fuel, left)
		}
	}
}

func TestFlowOfNoPlan(t *testing.T) {
	for name, p := range noPlans() {
		if got := impl.FlowOf(p); !isNoFlow(got) {
			t.Errorf("%s has a flow", name)
		}
		wantNoFlow(t, name, impl.Flow{Plan: p})
		if strings.Contains("bushy long round in 3", name) {
			continue
		}
		wantNoFlow(t, name+" with its kids", flowOfParts(p))
		wantNoFlow(t, name+" in once", flowOfParts(onceOf(p)))
	}
	wantNoFlow(t, "nothing", impl.Flow{})
}

// TestFlowOfBounds has plans of just as many parts, and just as deep, as there can be, and of one more.
func TestFlowOfBounds(t *testing.T) {
	ten := onceOf(bothOf(bothOf(bothOf(tableOf(0), tableOf(0)), tableOf(0)), bothOf(tableOf(0), tableOf(0))))
	for name, c := range map[string]struct {
		p    impl.Plan
		want bool
	}{
		"10 parts": {ten, true}, "11 parts": {onceOf(ten), false}, "5 around": {nested(5, tableOf(2)), true}, "6 around": {nested(6, tableOf(2)), false},
	} {
		f := impl.FlowOf(c.p)
		if impl.FlowOk(f) != c.want || isNoFlow(f) == c.want || impl.FlowOk(flowOfParts(c.p)) != c.want {
			t.Error(name)
		}
		wantStep(t, f, listsRead(t, "1*1 2*-3"))
		wantStep(t, flowOfParts(c.p), listsRead(t, "1*1 2*-3"))
	}
}

// flowKinds is flows of each kind of plan behind the same four times: what was told at each.
var flowKinds = map[string][4]string{
	"t0":                                   {"1,10*2 2,20*1", "1,10*-1 3,30*1", "2,20*-1", ""},
	"t1":                                   {"1,5*1", "", "2,6*3", "1,5*-1"},
	"t2":                                   {"", "", "", ""},
	"where c1<#20 t0":                      {"1,10*2", "1,10*-1", "", ""},
	"where !c0=#2 t0":                      {"1,10*2", "1,10*-1 3,30*1", "", ""},
	"map c0+c1 t0":                         {"11*2 22*1", "11*-1 33*1", "22*-1", ""},
	"map #7 t0":                            {"7*3", "", "7*-1", ""},
	"join 0 0 t0 t1":                       {"1,10,1,5*2", "1,10,1,5*-1", "", "1,10,1,5*-1"},
	"join 0 0 t1 t0":                       {"1,5,1,10*2", "1,5,1,10*-1", "", "1,5,1,10*-1"},
	"join 0 0 t1 t1":                       {"1,5,1,5*1", "", "2,6,2,6*9", "1,5,1,5*-1"},
	"join 0 0 t0 t2":                       {"", "", "", ""},
	"both t0 t1":                           {"1,5*1 1,10*2 2,20*1", "1,10*-1 3,30*1", "2,6*3 2,20*-1", "1,5*-1"},
	"once t0":                              {"1,10*1 2,20*1", "3,30*1", "2,20*-1", ""},
	"once map c0 both t0 t1":               {"1*1 2*1", "3*1", "", ""},
	"group 0 count 0 t0":                   {"1,2*1 2,1*1", "1,1*1 1,2*-1 3,1*1", "2,1*-1", ""},
	"group - sum 1 t0":                     {"40*1", "40*-1 60*1", "40*1 60*-1", ""},
	"group - least 1 t1":                   {"5*1", "", "", "5*-1 6*1"},
	"group - most 1 t0":                    {"20*1", "20*-1 30*1", "", ""},
	"group 0 sum 3 join 0 0 t0 t1":         {"1,10*1", "1,5*1 1,10*-1", "", "1,5*-1"},
	"join 0 0 group 0 sum 1 t0 once t1":    {"1,20,1,5*1", "1,10,1,5*1 1,20,1,5*-1", "", "1,10,1,5*-1"},
	"where c1<#25 group 0 sum 1 t0":        {"1,20*1 2,20*1", "1,10*1 1,20*-1", "2,20*-1", ""},
	"map c0 once both where c1<#6 t1 t0":   {"1*2 2*1", "3*1", "2*-1", "1*-1"},
	"once group 0 least 1 both t0 once t1": {"1,5*1 2,20*1", "3,30*1", "2,6*1 2,20*-1", "1,5*-1 1,10*1"},
}

var flowTimes = [4]string{"1,10*2 2,20*1 / 1,5*1", "1,10*-1 3,30*1", "2,20*-1 / 2,6*3", " / 1,5*-1 /"}

func TestFlowStepOfEachKind(t *testing.T) {
	for text, want := range flowKinds {
		for _, fuel := range []int{-1, 0, 3, 1000} {
			f := follow(planRead(t, text))
			for at, turned := range flowTimes {
				lists := listsRead(t, turned)
				_, told, ok := impl.FlowStep(f.flow, lists)
				wantText(t, fmt.Sprint(text, " at ", at, " merged with ", fuel), told, ok, want[at])
				if ok, meant := f.turn(t, lists); !ok || !meant {
					t.Fatal(text, at)
				}
				if fuel >= 0 {
					f.flow, _ = wantFlowMerged(t, f.flow, fuel)
				}
			}
		}
	}
}

// TestFlowKeeps asks for the runs in each spine behind the four times, and when they are merged.
func TestFlowKeeps(t *testing.T) {
	for _, c := range []struct {
		text, want string
		runs       int
		merged     string
		left       int
	}{
		{"t0", "t0 { / }", 0, "t0 { / }", 100},
		{"where c1<#20 t0", "where c1<#20 t0 { / }; t0 { / }", 0, "where c1<#20 t0 { / }; t0 { / }", 100},
		{"map c0 t0", "map c0 t0 { / }; t0 { / }", 0, "map c0 t0 { / }; t0 { / }", 100},
		{"both t0 t1", "both t0 t1 { / }; t0 { / }; t1 { / }", 0, "both t0 t1 { / }; t0 { / }; t1 { / }", 100},
		{"once t0", "once t0 {1,10*2 2,20*1 | 1,10*-1 3,30*1 | 2,20*-1 / }; t0 { / }", 3, "once t0 {1,10*1 3,30*1 / }; t0 { / }", 100 - 3 - 5},
		{"group 0 most 1 t1", "group 0 most 1 t1 {1,5*1 | 2,6*3 | 1,5*-1 / }; t1 { / }", 3, "group 0 most 1 t1 {2,6*3 / }; t1 { / }", 100 - 2 - 3},
		{"join 0 0 t0 t1", "join 0 0 t0 t1 {1,10*2 2,20*1 | 1,10*-1 3,30*1 | 2,20*-1 / 1,5*1 | 2,6*3 | 1,5*-1}; t0 { / }; t1 { / }", 6, "join 0 0 t0 t1 {1,10*1 3,30*1 / 2,6*3}; t0 { / }; t1 { / }", 100 - 8 - 5},
		{"join 0 0 once t1 t1", "join 0 0 once t1 t1 {1,5*1 | 2,6*1 | 1,5*-1 / 1,5*1 | 2,6*3 | 1,5*-1}; once t1 {1,5*1 | 2,6*3 | 1,5*-1 / }; t1 { / }; t1 { / }", 9, "join 0 0 once t1 t1 {2,6*1 / 2,6*3}; once t1 {2,6*3 / }; t1 { / }; t1 { / }", 100 - 15},
	} {
		f := flowRead(t, c.text)
		for _, turned := range flowTimes {
			f, _, _ = wantStep(t, f, listsRead(t, turned))
		}
		if got := flowText(f); got != c.want || impl.FlowMany(f) != c.runs {
			t.Errorf("%s: %s, %d runs; want %s, %d", c.text, got, impl.FlowMany(f), c.want, c.runs)
		}
		merged, left := wantFlowMerged(t, f, 100)
		if got := flowText(merged); got != c.merged || left != c.left {
			t.Errorf("%s: merged to %s, %d is left; want %s, %d", c.text, got, left, c.merged, c.left)
		}
	}
}

// TestFlowOfOneTableTwice has a table on both sides of a join: both are turned at once, so that what is new meets itself.
func TestFlowOfOneTableTwice(t *testing.T) {
	for _, c := range []struct {
		text  string
		turns []string
		told  []string
	}{
		{"join 0 0 t0 t0", []string{"1*2", "1*1", "1*-3"}, []string{"1,1*4", "1,1*5", "1,1*-9"}},
		{"join 0 0 t0 t0", []string{"1,1*1", "1,2*1", "1,1*-1"}, []string{"1,1,1,1*1", "1,1,1,2*1 1,2,1,1*1 1,2,1,2*1", "1,1,1,1*-1 1,1,1,2*-1 1,2,1,1*-1"}},
		{"join 1 0 t0 t0", []string{"1,2*1 2,3*1", "3,1*1", "2,3*-1"}, []string{"1,2,2,3*1", "2,3,3,1*1 3,1,1,2*1", "1,2,2,3*-1 2,3,3,1*-1"}},
		{"join 0 0 t0 once t0", []string{"1*2", "1*1", "1*-3"}, []string{"1,1*2", "1,1*1", "1,1*-3"}},
		{"join 0 0 where c0<#2 t0 map c0 t0", []string{"1,1*1 2,2*1", "1,5*1", "1,1*-1"}, []string{"1,1,1*1", "1,1,1*1 1,5,1*2", "1,1,1*-2 1,5,1*-1"}},
		{"join 0 0 t0 both t0 t1", []string{"1*2 / 1*-2", "1*1", "1*1 / 1*5"}, []string{"", "1,1*3", "1,1*25"}},
		{"join 0 0 join 0 0 t0 t0 t0", []string{"1*2", "1*-1", "1*-1"}, []string{"1,1,1*8", "1,1,1*-7", "1,1,1*-1"}},
		{"both t0 t0", []string{"1*2", "1*-1 2*1"}, []string{"1*4", "1*-2 2*2"}},
		{"join 0 0 t0 t1", []string{"1*2 / 1*3", "1*1 / 1*1", "1*-3 / 1*-4", "1*-2 / 1*-2"}, []string{"1,1*6", "1,1*6", "1,1*-12", "1,1*4"}},
		{"join 0 0 t0 t1", []string{"1*2 / 2*3", "1*-2 2*1 / 1*1 2*-3", "/ 2*1"}, []string{"", "", "2,2*1"}},
	} {
		f := follow(planRead(t, c.text))
		for at, turned := range c.turns {
			lists := listsRead(t, turned)
			_, told, ok := impl.FlowStep(f.flow, lists)
			wantText(t, fmt.Sprint(c.text, " at ", at), told, ok, c.told[at])
			if ok, meant := f.turn(t, lists); !ok || !meant {
				t.Fatal(c, at)
			}
		}
	}
}

// TestFlowOfFewLists has tables of which nothing is turned, no lists at all, and fewer than the plan names.
func TestFlowOfFewLists(t *testing.T) {
	for text := range flowKinds {
		f := flowRead(t, text)
		f, _, _ = wantStep(t, f, listsRead(t, flowTimes[0]))
		for _, none := range [][][]impl.Item{nil, {}, {nil}, {{}, nil}, {nil, {}, nil}} {
			got, told, ok := wantStep(t, f, none)
			wantText(t, text+" of nothing", told, ok, "")
			wantFlow(t, text+" of nothing", got, f)
		}
	}
	for _, c := range []struct{ text, turned, want string }{
		{"t2", "1*1", ""}, {"t2", "1*1 / 2*1", ""}, {"t2", "1*1 / 2*1 / 3*1", "3*1"}, {"t1", "1*1", ""}, {"t1", "1*1 / 2*1 / 3*1", "2*1"},
		{"both t0 t2", "1*1", "1*1"}, {"both t0 t2", "1*1 / 2*1 / 1*1", "1*2"}, {"both t2 t0", "none", ""},
		{"join 0 0 t0 t2", "1*1", ""}, {"join 0 0 t0 t2", "1*1 / 1*1", ""}, {"join 0 0 t0 t2", "1*1 / 2*1 / 1*5", "1,1*5"}, {"group 0 count 0 t2", "1*1 / 2*1", ""},
	} {
		_, told, ok := wantStep(t, flowRead(t, c.text), listsRead(t, c.turned))
		wantText(t, fmt.Sprint(c), told, ok, c.want)
	}
	// A table that comes behind: what the others were by then is kept.
	f := follow(planRead(t, "group 0 sum 5 join 0 0 join 0 0 t0 t1 t2"))
	for _, turned := range []string{"1,1*1", "1,2*1 / 1,5*1", "none", "/ / 1,7*1", "1,1*-1", "/ 1,5*-1", "/ 1,5*1 2,2*1"} {
		if ok, meant := f.turn(t, listsRead(t, turned)); !ok || !meant {
			t.Error(turned)
		}
	}
	if impl.ZText(f.view) != "1,7*1" {
		t.Error(impl.ZText(f.view))
	}
}

func TestFlowOfManyLists(t *testing.T) {
	one := many(1, 1, 1)
	for text := range flowKinds {
		f := flowRead(t, text)
		f, _, _ = wantStep(t, f, listsRead(t, flowTimes[0]))
		for count := range 7 {
			for _, z := range [][]impl.Item{nil, read(t, "1,10*1"), one[:0]} {
				got, told, ok := wantStep(t, f, slices.Repeat([][]impl.Item{z}, count))
				if ok != (count <= 3) || count > 3 && (len(told) > 0 || !isNoFlow(got)) {
					t.Errorf("%s with %d lists: %v, %v", text, count, told, ok)
				}
			}
		}
	}
}

func TestFlowOfWrongLists(t *testing.T) {
	for text := range flowKinds {
		f := flowRead(t, text)
		f, _, _ = wantStep(t, f, listsRead(t, flowTimes[0]))
		for name, z := range wrongItems() {
			for at := range 3 {
				lists := listsRead(t, "1,10*1 / 2,2*1 /")
				lists[at] = z
				if got, told, ok := wantStep(t, f, lists); ok || len(told) > 0 || !isNoFlow(got) {
					t.Errorf("%s with %s at %d: %v, %v", text, name, at, told, ok)
				}
			}
		}
	}
}

// tooMuch is steps that are too much, each behind parts that are turned already: a plan, what was turned ahead of it, and what is too much.
func tooMuch(t *testing.T) map[string]struct {
	text  string
	ahead [][][]impl.Item
	much  [][]impl.Item
} {
	two := func(first, second []impl.Item) [][]impl.Item { return [][]impl.Item{first, second} }
	full := [][][]impl.Item{two(many(0, 100, 1), nil)}
	small := [][][]impl.Item{listsRead(t, "1,1*1 / 1,1*1")}
	return map[string]struct {
		text  string
		ahead [][][]impl.Item
		much  [][]impl.Item
	}{
		"no cell to map, behind once":         {"both once t0 map c1 t1", small, listsRead(t, "1,2*1 / 1*1")},
		"no cell to map, ahead of once":       {"both map c1 t1 once t0", small, listsRead(t, "1,2*1 / 1*1")},
		"no cell to ask, behind a group":      {"both group 0 sum 1 t0 where c1<#5 t1", small, listsRead(t, "1,2*1 / 1*1")},
		"no cell to join, first kid kept":     {"join 0 1 once t0 t1", small, listsRead(t, "1,2*1 / 1*1")},
		"no cell to group by":                 {"group 1 count 0 once t0", small, listsRead(t, "2,2*1 3*1")},
		"no cell to sum":                      {"group 0 sum 1 both once t0 t1", small, listsRead(t, "2,2*1 / 3*1")},
		"a sum in no cell":                    {"group 0 sum 1 once t0", small, listsRead(t, "1,1000000000*1")},
		"a mapped sum in no cell":             {"map c0+c1 once t0", small, listsRead(t, "1,1000000000*1")},
		"joined too wide":                     {"join 0 0 once t0 once t1", small, listsRead(t, "2,2,2,2*1 / 2,2,2*1")},
		"joined too often":                    {"join 0 0 both once t0 t0 t1", [][][]impl.Item{listsRead(t, "/ 1*10000")}, listsRead(t, "1*1 / 2*1")},
		"101 rows on the left":                {"join 0 0 t0 t1", full, two(many(100, 1, 1), many(200, 1, 1))},
		"101 rows on the right":               {"join 0 0 t1 t0", full, two(many(100, 1, 1), many(200, 1, 1))},
		"101 rows on the right, first kept":   {"join 0 0 once t1 once t0", full, two(many(100, 1, 1), many(200, 1, 1))},
		"101 rows to be once":                 {"once both t1 once t0", full, two(many(100, 1, 1), nil)},
		"101 rows, but for a kid":             {"once both once t1 t0", full, two(many(1, 1, 1), many(100, 1, 1))},
		"101 rows to be grouped":              {"group - count 0 t0", full, two(many(100, 1, 1), nil)},
		"10001 on the left":                   {"join 0 0 t0 t1", [][][]impl.Item{two(many(1, 1, 10000), nil)}, two(many(1, 1, 1), nil)},
		"10001 on the right":                  {"join 0 0 t1 t0", [][][]impl.Item{two(many(1, 1, 10000), nil)}, two(many(1, 1, 1), many(2, 1, 1))},
		"-10001 to be once":                   {"both once t1 once t0", [][][]impl.Item{two(many(1, 1, -10000), many(1, 1, 1))}, two(many(1, 1, -1), many(1, 1, 1))},
		"10001 to be grouped, by both":        {"group - count 0 both once t0 t1", [][][]impl.Item{two(many(1, 1, 1), many(1, 1, 9999))}, two(many(2, 1, 1), many(1, 1, 1))},
		"both are 20000":                      {"both once t0 both t1 t1", nil, two(many(1, 1, 1), many(1, 1, 10000))},
		"both are 101 rows":                   {"both both t0 t1 once t0", nil, two(many(0, 60, 1), many(60, 41, 1))},
		"mapped to 10001":                     {"both once t0 map #1 t1", nil, two(many(1, 1, 1), append(many(1, 1, 10000), many(2, 1, 1)...))},
		"101 groups come and go":              {"group 0 sum 1 both once t0 t1", [][][]impl.Item{two(nil, rowsOfTwo(0, 51, 1))}, two(many(1000, 1, 1), rowsOfTwo(0, 51, -1))},
		"the last of many parts, all of them": {"join 0 0 group 0 count 0 once t0 join 0 0 once t1 t0", [][][]impl.Item{listsRead(t, "1*1 / 1*1"), listsRead(t, "2*1 / 2*1")}, listsRead(t, "1*10000 / 3*1")},
	}
}

// rowsOfTwo is rows of two cells, each with a first one of its own.
func rowsOfTwo(from int, count int, w int) []impl.Item {
	z := many(from, count, w)
	for i := range z {
		z[i].Row = append(z[i].Row, 1)
	}
	return z
}

// TestFlowTooMuch has a part that tells false behind, or ahead of, parts that are turned already: the flow is as it was in all its parts.
func TestFlowTooMuch(t *testing.T) {
	for name, c := range tooMuch(t) {
		for _, fuel := range []int{0, 1000} {
			f := flowRead(t, c.text)
			for _, turned := range c.ahead {
				next, _, ok := wantStep(t, f, turned)
				if !ok {
					t.Fatal(name, "is too much ahead of it")
				}
				f, _ = wantFlowMerged(t, next, fuel)
			}
			got, told, ok := wantStep(t, f, c.much)
			wantNone(t, name, told, ok)
			wantFlow(t, name, got, f)
			if !impl.FlowSame(got, f) || !impl.FlowOk(got) {
				t.Error(name, "is not as it was")
			}
			// It goes on as if nothing had been.
			again, toldAgain, okAgain := wantStep(t, got, listsRead(t, "1,7*1 / 1,7*1"))
			want, wantItems, wantOk := wantStep(t, f, listsRead(t, "1,7*1 / 1,7*1"))
			wantFlow(t, name, again, want)
			wantTold(t, name, toldAgain, okAgain, wantItems, wantOk)
		}
	}
}

// TestFlowJustNotTooMuch has as many rows, and as great weights, as a spine can have.
func TestFlowJustNotTooMuch(t *testing.T) {
	for _, c := range []struct {
		text        string
		ahead, then [][]impl.Item
		want        bool
	}{
		{"once t0", [][]impl.Item{many(0, 99, 1)}, [][]impl.Item{many(99, 1, 1)}, true},
		{"once t0", [][]impl.Item{many(0, 99, 1)}, [][]impl.Item{many(99, 2, 1)}, false},
		{"once t0", [][]impl.Item{many(0, 100, 1)}, [][]impl.Item{append(many(0, 1, -1), many(100, 1, 1)...)}, true},
		{"once t0", [][]impl.Item{many(1, 1, 9999)}, [][]impl.Item{many(1, 1, 1)}, true},
		{"once t0", [][]impl.Item{many(1, 1, 9999)}, [][]impl.Item{many(1, 1, 2)}, false},
		{"once t0", [][]impl.Item{many(1, 1, -9999)}, [][]impl.Item{many(1, 1, -1)}, true},
		{"once t0", [][]impl.Item{many(1, 1, -9999)}, [][]impl.Item{many(1, 1, -2)}, false},
		{"once t0", [][]impl.Item{many(0, 51, 1)}, [][]impl.Item{append(many(0, 51, -1), many(51, 49, 1)...)}, true},
		{"once t0", [][]impl.Item{many(0, 51, 1)}, [][]impl.Item{append(many(0, 50, -1), many(51, 50, 1)...)}, true},
		{"once once t0", [][]impl.Item{many(0, 100, 10000)}, [][]impl.Item{many(0, 100, -10000)}, true},
		{"group - count 0 t0", [][]impl.Item{many(0, 99, 10000)}, [][]impl.Item{many(99, 1, 10000)}, true},
		{"group - count 0 t0", [][]impl.Item{many(0, 99, 10000)}, [][]impl.Item{many(99, 2, 10000)}, false},
		{"group - sum 0 t0", [][]impl.Item{read(t, "999999999*1")}, [][]impl.Item{read(t, "1*1")}, true},
		{"group - sum 0 t0", [][]impl.Item{read(t, "999999999*1")}, [][]impl.Item{read(t, "1*2")}, false},
		{"join 0 0 t0 t1", [][]impl.Item{many(0, 99, 1), nil}, [][]impl.Item{many(99, 1, 1), nil}, true},
		{"join 0 0 t0 t1", [][]impl.Item{many(0, 99, 1), nil}, [][]impl.Item{many(99, 2, 1), nil}, false},
		{"join 0 0 t0 t1", [][]impl.Item{nil, many(1, 1, 9999)}, [][]impl.Item{nil, many(1, 1, 1)}, true},
		{"join 0 0 t0 t1", [][]impl.Item{nil, many(1, 1, 9999)}, [][]impl.Item{nil, many(1, 1, 2)}, false},
		{"join 0 0 t0 t1", [][]impl.Item{many(1, 1, 1), nil}, [][]impl.Item{nil, many(1, 1, 10000)}, true},
		{"join 0 0 t0 t1", [][]impl.Item{many(1, 1, 2), nil}, [][]impl.Item{nil, many(1, 1, 5001)}, false},
		{"join 0 0 t0 t1", [][]impl.Item{rowsAt(1, 0, 10, 1), nil}, [][]impl.Item{nil, rowsAt(1, 0, 10, 1)}, true},
		{"join 0 0 t0 t1", [][]impl.Item{rowsAt(1, 0, 11, 1), nil}, [][]impl.Item{nil, rowsAt(1, 0, 10, 1)}, false},
		// What is joined is too much by then, but not by how much it is turned.
		{"join 0 0 t0 t1", [][]impl.Item{rowsAt(1, 0, 10, 1), rowsAt(1, 0, 10, 1)}, [][]impl.Item{nil, rowsAt(1, 10, 10, 1)}, true},
		{"both t0 t1", [][]impl.Item{many(0, 100, 1), nil}, [][]impl.Item{nil, many(100, 100, 1)}, true},
		{"t0", [][]impl.Item{many(0, 100, 10000)}, [][]impl.Item{many(0, 100, 10000)}, true},
	} {
		f, _, ok := wantStep(t, flowRead(t, c.text), c.ahead)
		if !ok {
			t.Fatal(c.text, listsText(c.ahead))
		}
		if _, _, ok := wantStep(t, f, c.then); ok != c.want {
			t.Errorf("%s turned by %q, then by %q: %v", c.text, listsText(c.ahead), listsText(c.then), ok)
		}
	}
}

// TestFlowOfManyRuns puts more than RunMost runs into each spine: the last two are merged, and so on.
func TestFlowOfManyRuns(t *testing.T) {
	f := follow(planRead(t, "join 0 0 once t0 group 0 sum 1 t1"))
	for at := range 12 {
		lists := [][]impl.Item{many(at, 1, 1), rowsAt(at, at, 1, 1)}
		if ok, meant := f.turn(t, lists); !ok || !meant {
			t.Fatal(at)
		}
		runs := min(at+1, 5)
		if got := impl.FlowMany(f.flow); got != 4*runs {
			t.Errorf("%d runs behind %d times; want %d", got, at+1, 4*runs)
		}
		for _, s := range []impl.Spine{f.flow.Left, f.flow.Right, f.flow.Kids[0].Left, f.flow.Kids[1].Left} {
			if len(s.Runs) != runs {
				t.Error(at, runsText(s))
			}
		}
	}
	five := runsRead(t, "1*1 | 2*1 | 3*1 | 4*1 | 5*1")
	got, told, ok := wantStep(t, impl.Flow{Plan: planRead(t, "once t0"), Left: five, Kids: []impl.Flow{flowRead(t, "t0")}}, listsRead(t, "5*-1 6*1"))
	wantText(t, "a sixth run", told, ok, "5*-1 6*1")
	wantRuns(t, "a sixth run", got.Left, runsRead(t, "1*1 | 2*1 | 3*1 | 4*1 | 6*1"))
}

// TestFlowOfGroupsThatGo has groups that are empty then, and a least and a greatest that go.
func TestFlowOfGroupsThatGo(t *testing.T) {
	for _, c := range []struct {
		text  string
		turns []string
		told  []string
	}{
		{"group 0 count 1 t0", []string{"1,1*2 2,1*1", "1,1*-1", "1,1*-1", "1,1*-1", "1,1*2"}, []string{"1,2*1 2,1*1", "1,1*1 1,2*-1", "1,1*-1", "", "1,1*1"}},
		{"group 0 sum 1 t0", []string{"1,0*1", "1,0*-1", "1,5*1 1,6*-1", "1,6*2", "1,5*-1 1,6*-1"}, []string{"1,0*1", "1,0*-1", "1,5*1", "1,5*-1 1,11*1", "1,11*-1"}},
		{"group - count 0 t0", []string{"1*1", "1*-1", "1*1 2*1", "1*-1 2*-1"}, []string{"1*1", "1*-1", "2*1", "2*-1"}},
		{"group 0 least 1 t0", []string{"1,3*1 1,5*1 1,9*1", "1,3*-1", "1,2*1 1,5*-1", "1,2*-1", "1,9*-1"}, []string{"1,3*1", "1,3*-1 1,5*1", "1,2*1 1,5*-1", "1,2*-1 1,9*1", "1,9*-1"}},
		{"group 0 least 1 t0", []string{"1,3*2 1,5*1", "1,3*-1", "1,3*-1", "1,3*1 1,5*-1"}, []string{"1,3*1", "", "1,3*-1 1,5*1", "1,3*1 1,5*-1"}},
		{"group 0 most 1 t0", []string{"1,3*1 1,5*1 2,9*1", "1,5*-1", "1,8*1 2,9*-1", "1,3*-1"}, []string{"1,5*1 2,9*1", "1,3*1 1,5*-1", "1,3*-1 1,8*1 2,9*-1", ""}},
		{"group 0 least 1 group 0,1 sum 2 t0", []string{"1,1,7*1 1,2,5*1", "1,2,5*-1", "1,1,7*-1"}, []string{"1,1*1", "", "1,1*-1"}},
		{"group 0 least 2 group 0,1 sum 2 t0", []string{"1,1,7*1 1,2,5*1", "1,2,5*-1", "1,1,7*-1"}, []string{"1,5*1", "1,5*-1 1,7*1", "1,7*-1"}},
	} {
		for _, fuel := range []int{0, 1000} {
			f := follow(planRead(t, c.text))
			for at, turned := range c.turns {
				lists := listsRead(t, turned)
				_, told, ok := impl.FlowStep(f.flow, lists)
				wantText(t, fmt.Sprint(c.text, " at ", at), told, ok, c.told[at])
				if ok, meant := f.turn(t, lists); !ok || !meant {
					t.Fatal(c, at)
				}
				f.flow, _ = wantFlowMerged(t, f.flow, fuel)
			}
		}
	}
}

// TestFlowOfWhatComesAndGoes has rows that come and go at one time: nothing is told of them, and no run is put for them.
func TestFlowOfWhatComesAndGoes(t *testing.T) {
	for _, c := range []struct {
		text, ahead, turned, told string
		runs                      int
	}{
		{"both t0 t1", "none", "1*1 / 1*-1", "", 0},
		{"map c0 t0", "none", "1,1*1 1,2*-1", "", 0},
		{"once both t0 t1", "none", "1*1 / 1*-1", "", 0},
		{"once both t0 t1", "1*1", "1*1 2*1 / 1*-1 2*-1", "", 1},
		{"once both t0 t1", "1*1", "1*-1 / 1*1", "", 1},
		{"once t0", "1*2", "1*-1", "", 2},
		{"once map c0 t0", "1,1*1", "1,1*-1 1,2*1", "", 1},
		{"group 0 count 0 map c0 t0", "1,1*1", "1,1*-1 1,2*1", "", 1},
		{"group 0 sum 1 t0", "1,1*1 1,2*1", "1,1*-1 1,2*-1 1,3*1", "", 2},
		{"group - least 0 both t0 t1", "5*1", "3*1 / 3*-1", "", 1},
		{"join 0 0 both t0 t1 t2", "/ / 1*1", "1*1 / 1*-1", "", 1},
		{"join 0 0 map c0 t0 t1", "1,1*1 / 1*1", "1,1*-1 1,2*1", "", 2},
		{"join 0 0 t0 t1", "1*1 / 1*1", "1*1 / 2*1", "1,1*1", 4},
		{"join 0 0 t0 t1", "1*2 / 1*4", "1*2 / 1*-2", "", 4},
		{"join 0 0 once both t0 t1 t2", "1*1 / / 1*1", "2*1 / 2*-1 / 2*1", "", 4},
	} {
		f := follow(planRead(t, c.text))
		if ok, meant := f.turn(t, append(listsRead(t, c.ahead), nil, nil, nil)[:3]); !ok || !meant {
			t.Fatal(c)
		}
		_, told, ok := impl.FlowStep(f.flow, listsRead(t, c.turned))
		wantText(t, fmt.Sprint(c), told, ok, c.told)
		if ok, meant := f.turn(t, listsRead(t, c.turned)); !ok || !meant || impl.FlowMany(f.flow) != c.runs {
			t.Errorf("%v: %v, %v, %s", c, ok, meant, flowText(f.flow))
		}
	}
}

// TestFlowMergeFuel spends fuel on Left, then on Right, then on all in the flows, in order.
func TestFlowMergeFuel(t *testing.T) {
	f := flowRead(t, "join 0 0 once t0 group 0 count 0 t1")
	f.Left, f.Right = runsRead(t, "1*1 2*1 | 3*1"), runsRead(t, "1,1*1 | 2,1*1 3,1*1 4,1*1")
	f.Kids[0].Left, f.Kids[1].Left = runsRead(t, "1*1 | 2*1"), runsRead(t, "1*1 | 2*1 | 3*1")
	left, right, first, second := "1*1 2*1 3*1", "1,1*1 2,1*1 3,1*1 4,1*1", "1*1 2*1", "1*1 2*1 3*1"
	for _, c := range []struct {
		fuel                       int
		left, right, first, second string
		rest                       int
	}{
		{0, "1*1 2*1 | 3*1", "1,1*1 | 2,1*1 3,1*1 4,1*1", "1*1 | 2*1", "1*1 | 2*1 | 3*1", 0},
		{1, "1*1 2*1 | 3*1", "1,1*1 | 2,1*1 3,1*1 4,1*1", "1*1 | 2*1", "1*1 | 2*1 | 3*1", 1},
		{2, "1*1 2*1 | 3*1", "1,1*1 | 2,1*1 3,1*1 4,1*1", first, "1*1 | 2*1 | 3*1", 0},
		{3, left, "1,1*1 | 2,1*1 3,1*1 4,1*1", "1*1 | 2*1", "1*1 | 2*1 | 3*1", 0},
		{4, left, "1,1*1 | 2,1*1 3,1*1 4,1*1", "1*1 | 2*1", "1*1 | 2*1 | 3*1", 1},
		{5, left, "1,1*1 | 2,1*1 3,1*1 4,1*1", first, "1*1 | 2*1 | 3*1", 0},
		{6, left, "1,1*1 | 2,1*1 3,1*1 4,1*1", first, "1*1 | 2*1 | 3*1", 1},
		{7, left, right, "1*1 | 2*1", "1*1 | 2*1 | 3*1", 0},
		{8, left, right, "1*1 | 2*1", "1*1 | 2*1 | 3*1", 1},
		{9, left, right, first, "1*1 | 2*1 | 3*1", 0},
		{10, left, right, first, "1*1 | 2*1 | 3*1", 1},
		{11, left, right, first, "1*1 | 2*1 3*1", 0},
		{13, left, right, first, "1*1 | 2*1 3*1", 2},
		{14, left, right, first, second, 0},
		{15, left, right, first, second, 1},
		{1000, left, right, first, second, 986},
		{math.MaxInt, left, right, first, second, math.MaxInt - 14},
	} {
		got, rest := wantFlowMerged(t, f, c.fuel)
		want := copiedFlow(f)
		want.Left, want.Right = runsRead(t, c.left), runsRead(t, c.right)
		want.Kids[0].Left, want.Kids[1].Left = runsRead(t, c.first), runsRead(t, c.second)
		wantFlow(t, fmt.Sprint("fuel of ", c.fuel), got, want)
		if rest != c.rest {
			t.Errorf("fuel of %d: %d is left; want %d", c.fuel, rest, c.rest)
		}
	}
	for _, fuel := range []int{-1, -2, -1000, math.MinInt} {
		if got, rest := impl.FlowMerge(f, fuel); rest != 0 || !isNoFlow(got) {
			t.Errorf("fuel of %d: %s, %d", fuel, flowText(got), rest)
		}
	}
}

// TestFlowMergeInOrder has a flow further down in the first kid, which comes ahead of the second kid.
func TestFlowMergeInOrder(t *testing.T) {
	f := flowRead(t, "both once once t0 once once t1")
	two := runsRead(t, "1*1 | 2*1")
	f.Kids[0].Left, f.Kids[0].Kids[0].Left = two, two
	f.Kids[1].Left, f.Kids[1].Kids[0].Left = two, two
	for fuel := range 10 {
		got, rest := wantFlowMerged(t, f, fuel)
		merged := min(fuel/2, 4)
		var runs []int
		for _, s := range []impl.Spine{got.Kids[0].Left, got.Kids[0].Kids[0].Left, got.Kids[1].Left, got.Kids[1].Kids[0].Left} {
			runs = append(runs, len(s.Runs))
		}
		want := append(slices.Repeat([]int{1}, merged), slices.Repeat([]int{2}, 4-merged)...)
		if !slices.Equal(runs, want) || rest != fuel-2*merged || impl.FlowMany(got) != 8-merged {
			t.Errorf("fuel of %d: %v, %d is left", fuel, runs, rest)
		}
	}
}

// TestFlowMergeToNothing has runs that are nothing together, and such as are too much as one run.
func TestFlowMergeToNothing(t *testing.T) {
	f := flowRead(t, "join 0 0 once t0 t1")
	f.Left, f.Right, f.Kids[0].Left = runsRead(t, "1*1 | 1*-1"), runsRead(t, "1*-10000 | 1*10000 | 1*10000"), runsRead(t, "2*1 | 1*5 | 1*-5")
	got, rest := wantFlowMerged(t, f, 100)
	if want := "join 0 0 once t0 t1 { / 1*-10000 | 1*10000 | 1*10000}; once t0 {2*1 / }; t0 { / }; t1 { / }"; flowText(got) != want || rest != 96 || impl.FlowMany(got) != 4 {
		t.Error(flowText(got), rest)
	}
	for text := range flowKinds {
		empty := flowRead(t, text)
		for _, fuel := range []int{0, 1, 7, math.MaxInt} {
			got, rest := wantFlowMerged(t, empty, fuel)
			if rest != fuel || !impl.FlowSame(got, empty) {
				t.Error(text, fuel, rest)
			}
		}
	}
}

// fullParts is how many flows fullFlow has, with itself.
const fullParts = 9

// fullFlow has runs in each spine that keeps something, and a flow of each kind.
func fullFlow(t *testing.T) impl.Flow {
	f := flowRead(t, "join 0 0 once where c0<#9 map c0 t0 group 0 sum 1 both t1 t2")
	for _, turned := range []string{"1,1*1 2,2*1 / 1,5*1", "1,3*1 / / 1,6*1 2,6*1", "2,2*-1 / 3,3*1"} {
		next, _, ok := impl.FlowStep(f, listsRead(t, turned))
		if !ok {
			t.Fatal(turned)
		}
		f = next
	}
	if list, _ := partsByForm(f.Plan); len(list) != fullParts || impl.FlowMany(f) < 6 || !flowOkByForm(f) {
		t.Fatal(flowText(f))
	}
	return f
}

// TestFlowThatIsWrong changes one flow in a flow, at the top and further down.
func TestFlowThatIsWrong(t *testing.T) {
	full := fullFlow(t)
	other := flowRead(t, "t0")
	wrong := map[string]func(part *impl.Flow){
		"one flow too many":    func(part *impl.Flow) { part.Kids = append(part.Kids, flowRead(t, "t0")) },
		"nothing at the end":   func(part *impl.Flow) { part.Kids = append(part.Kids, impl.Flow{}) },
		"another plan":         func(part *impl.Flow) { part.Plan = onceOf(part.Plan) },
		"another kind":         func(part *impl.Flow) { part.Plan.Kind = part.Plan.Kind%7 + 1 },
		"no plan":              func(part *impl.Flow) { part.Plan = impl.Plan{} },
		"a plan of much":       func(part *impl.Flow) { part.Plan.N += 5 },
		"its kind alone":       func(part *impl.Flow) { part.Plan = impl.Plan{Kind: part.Plan.Kind} },
		"lacks a flow":         func(part *impl.Flow) { part.Kids = part.Kids[:max(0, len(part.Kids)-1)] },
		"lacks all flows":      func(part *impl.Flow) { part.Kids = nil },
		"the last is another":  func(part *impl.Flow) { part.Kids = append(part.Kids[:max(0, len(part.Kids)-1)], other) },
		"kids in other order":  func(part *impl.Flow) { slices.Reverse(part.Kids) },
		"a run on the left":    func(part *impl.Flow) { part.Left = runsRead(t, "7*1") },
		"a run on the right":   func(part *impl.Flow) { part.Right = runsRead(t, "7*1") },
		"nothing on the left":  func(part *impl.Flow) { part.Left = runsRead(t, "7*1 | 7*-1") },
		"nothing on the right": func(part *impl.Flow) { part.Right = runsRead(t, "7*1 | 7*-1") },
		"no runs at all":       func(part *impl.Flow) { part.Left, part.Right = impl.Spine{}, impl.Spine{Runs: [][]impl.Item{}} },
	}
	good := 0
	for name, change := range wrong {
		for at := range fullParts {
			f := changedAt(full, at, change)
			if flowOkByForm(f) {
				good++
				if !impl.FlowOk(f) || impl.FlowMany(f) != flowManyByForm(f) {
					t.Errorf("%s at %d: %s is not ok", name, at, flowText(f))
				}
				continue
			}
			wantNoFlow(t, fmt.Sprint(name, " at ", at, ": ", flowText(f)), f)
		}
	}
	// What is taken from a table, or turned in a flow of one kid, is as it was; a spine that keeps something may have other runs.
	if good < 20 || good > 60 {
		t.Error(good)
	}
	for name, s := range wrongRuns(t) {
		for at := range fullParts {
			wantNoFlow(t, fmt.Sprint(name, " on the left at ", at), changedAt(full, at, func(part *impl.Flow) { part.Left = s }))
			wantNoFlow(t, fmt.Sprint(name, " on the right at ", at), changedAt(full, at, func(part *impl.Flow) { part.Right = s }))
		}
	}
}

// TestFlowThatKeepsNothing has a run where nothing is kept, for each kind of plan by itself.
func TestFlowThatKeepsNothing(t *testing.T) {
	for text, keeps := range map[string]int{"t0": 0, "where c0<#1 t0": 0, "map c0 t0": 0, "join 0 0 t0 t1": 2, "both t0 t1": 0, "once t0": 1, "group 0 most 0 t0": 1} {
		f := flowRead(t, text)
		f.Left = runsRead(t, "1*1 | 1*-1 | 1*1 | 2*1 | 3*1")
		if impl.FlowOk(f) != (keeps > 0) {
			t.Error(text, "with a left one")
		}
		f.Left, f.Right = impl.Spine{}, runsRead(t, "1*1 | 1*-1 | 1*1 | 2*1 | 3*1")
		if impl.FlowOk(f) != (keeps > 1) {
			t.Error(text, "with a right one")
		}
		f.Left, f.Right = impl.Spine{Runs: [][]impl.Item{}}, impl.Spine{Runs: make([][]impl.Item, 0, 3)}
		if !impl.FlowOk(f) {
			t.Error(text, "with no runs")
		}
	}
}

// TestFlowSameInAllParts changes each part of each flow in a flow.
func TestFlowSameInAllParts(t *testing.T) {
	full := fullFlow(t)
	for name, change := range map[string]func(part *impl.Flow){
		"the plan": func(part *impl.Flow) { part.Plan.Col++ }, "keys": func(part *impl.Flow) { part.Plan.Keys = append(part.Plan.Keys, 3) }, "a kid of the plan": func(part *impl.Flow) { part.Plan.Kids = append(part.Plan.Kids, tableOf(0)) },
		"left": func(part *impl.Flow) { part.Left = behind(part.Left, many(9, 1, 1)) }, "right": func(part *impl.Flow) { part.Right = behind(part.Right, many(9, 1, 1)) },
		"a left one that is empty": func(part *impl.Flow) { part.Left.Runs = append(part.Left.Runs, nil) }, "a right one that is empty": func(part *impl.Flow) { part.Right.Runs = append(part.Right.Runs, nil) },
		"one more flow": func(part *impl.Flow) { part.Kids = append(part.Kids, impl.Flow{}) }, "left and right": func(part *impl.Flow) {
			part.Left, part.Right = behind(part.Right, many(9, 1, 1)), part.Left
		},
	} {
		for at := range fullParts {
			f := changedAt(full, at, change)
			if impl.FlowSame(full, f) || impl.FlowSame(f, full) || !impl.FlowSame(f, copiedFlow(f)) {
				t.Errorf("%s at %d", name, at)
			}
		}
	}
	// Runs that have the same together are not the same runs.
	f := flowRead(t, "once t0")
	f.Left = runsRead(t, "1*1 | 2*1")
	merged, _ := impl.FlowMerge(f, 10)
	if impl.FlowSame(f, merged) || !impl.FlowSame(full, copiedFlow(full)) || !impl.FlowSame(impl.Flow{}, impl.Flow{}) || impl.FlowSame(impl.Flow{}, full) {
		t.Error("whole flows")
	}
	empty := impl.Flow{Plan: impl.Plan{Cells: []impl.Cell{}, Keys: []int{}, Kids: []impl.Plan{}}, Left: impl.Spine{Runs: [][]impl.Item{}}, Right: impl.Spine{Runs: [][]impl.Item{}}, Kids: []impl.Flow{}}
	if !impl.FlowSame(impl.Flow{}, empty) || !impl.FlowSame(empty, impl.Flow{}) {
		t.Error("the nil list is not the empty list")
	}
	var flows []impl.Flow
	for text := range flowKinds {
		flows = append(flows, flowRead(t, text))
	}
	for i, a := range flows {
		for j, b := range flows {
			if impl.FlowSame(a, copiedFlow(b)) != (i == j) {
				t.Error(flowText(a), flowText(b))
			}
		}
	}
}

// roundFlow is a flow that is in itself, so many times around.
func roundFlow(p impl.Plan, steps int) impl.Flow {
	kids := make([]impl.Flow, 1)
	inner := impl.Flow{Plan: p, Kids: kids}
	for range steps {
		inner = impl.Flow{Plan: p, Kids: []impl.Flow{inner}}
	}
	kids[0] = inner
	return impl.Flow{Plan: p, Kids: kids}
}

// TestFlowThatEndsNowhere asks for an answer also of flows that go round, and of such as have very many flows.
func TestFlowThatEndsNowhere(t *testing.T) {
	once, both := onceOf(tableOf(0)), bothOf(tableOf(0), tableOf(0))
	bushy, other := impl.Flow{Plan: both}, impl.Flow{Plan: both}
	for range 100 {
		bushy, other = impl.Flow{Plan: both, Kids: []impl.Flow{bushy, bushy}}, impl.Flow{Plan: both, Kids: []impl.Flow{other, other}}
	}
	long := impl.Flow{Plan: once}
	for range 100000 {
		long = impl.Flow{Plan: once, Kids: []impl.Flow{long}}
	}
	roundPlan := round(onceOf(tableOf(0)), 0)
	flows := map[string]impl.Flow{
		"round": roundFlow(once, 0), "round in 3": roundFlow(once, 3), "of a plan that goes round": roundFlow(roundPlan, 0), "bushy": bushy, "long": long,
		"wide": {Plan: once, Kids: slices.Repeat([]impl.Flow{impl.FlowOf(tableOf(0))}, 100000)}, "of no plan": roundFlow(impl.Plan{}, 0),
		"a kid of a plan that goes round": {Plan: once, Kids: []impl.Flow{{Plan: roundPlan}}}, "a kid that goes round": {Plan: nested(2, tableOf(0)), Kids: []impl.Flow{roundFlow(once, 0)}},
		"many runs": {Plan: once, Left: impl.Spine{Runs: slices.Repeat([][]impl.Item{many(1, 1, 1)}, 100000)}, Kids: []impl.Flow{impl.FlowOf(tableOf(0))}},
	}
	for name, f := range flows {
		wantNoFlow(t, name, f)
		if !impl.FlowSame(f, f) || impl.FlowSame(f, impl.FlowOf(once)) || impl.FlowSame(impl.FlowOf(once), f) {
			t.Error(name)
		}
	}
	if !impl.FlowSame(bushy, other) || impl.FlowSame(bushy, impl.Flow{Plan: both, Kids: []impl.Flow{bushy, other}}) || impl.FlowSame(long, impl.Flow{Plan: once, Kids: []impl.Flow{long}}) {
		t.Error("flows of many flows")
	}
	if !impl.FlowSame(roundFlow(once, 0), roundFlow(once, 2)) || impl.FlowSame(roundFlow(once, 0), long) || impl.FlowSame(roundFlow(once, 0), roundFlow(both, 0)) {
		t.Error("flows that go round")
	}
}

// someLists is what is turned of up to three tables; now and then it is much, or takes back what is there.
func someLists(r *rand.Rand, tables [][]impl.Item) [][]impl.Item {
	lists := make([][]impl.Item, r.Intn(4))
	for n := range lists {
		switch r.Intn(8) {
		case 0:
		case 1:
			lists[n], _ = withoutByForm(nil, tables[n])
		case 2:
			lists[n] = slices.DeleteFunc(copied(tables[n]), func(impl.Item) bool { return r.Intn(3) == 0 })
			for i := range lists[n] {
				lists[n][i].W = -lists[n][i].W
			}
		default:
			lists[n] = someTurned(r, 2, 4)
		}
		if len(lists[n]) > 0 && r.Intn(60) == 0 {
			lists[n][0].W = []int{-10000, -9999, 9999, 10000}[r.Intn(4)]
		}
		if len(lists[n]) > 0 && r.Intn(60) == 0 {
			lists[n][len(lists[n])-1].Row = []int{5, 5, 5}[:1+2*r.Intn(2)]
		}
		if sum, ok := sumByForm(lists[n]); ok {
			lists[n] = sum
		} else {
			lists[n] = nil
		}
	}
	return lists
}

// TestFlowFollows turns tables one time behind the other, for many plans: a view is what its plan means then, and so it is however much is merged in between.
func TestFlowFollows(t *testing.T) {
	r := rand.New(rand.NewSource(81))
	kinds, times, much := map[int]int{}, 0, 0
	for range 500 {
		p := somePlan(r, 1+r.Intn(4))
		if !writableByForm(p) {
			wantNoFlow(t, planShown(p), impl.FlowOf(p))
			continue
		}
		f, often, all := follow(p), follow(p), follow(p)
		for range 12 {
			lists := someLists(r, f.tables)
			ok, meant := f.turn(t, lists)
			oftenOk, _ := often.turn(t, copiedLists(lists))
			allOk, _ := all.turn(t, copiedLists(lists))
			if ok != oftenOk || ok != allOk || !sameItems(f.view, often.view) || !sameItems(f.view, all.view) {
				t.Fatalf("%s turned by %q: merging changes what is told", impl.PlanText(p), listsText(lists))
			}
			wantKept(t, "merged now and then", often.flow, f.flow)
			wantKept(t, "merged each time", all.flow, f.flow)
			often.flow, _ = wantFlowMerged(t, often.flow, r.Intn(12))
			all.flow, _ = wantFlowMerged(t, all.flow, 10000)
			if !ok {
				much++
			}
			if ok && meant && len(f.view) > 0 {
				times, kinds[p.Kind] = times+1, kinds[p.Kind]+1
			}
		}
	}
	if times < 1500 || much < 100 || len(kinds) != 7 {
		t.Error("too little was told:", times, much, kinds)
	}
}

// TestFlowInPieces turns the same in other pieces, and all at once: the view is the same.
func TestFlowInPieces(t *testing.T) {
	r := rand.New(rand.NewSource(82))
	for text := range flowKinds {
		p := planRead(t, text)
		for range 20 {
			pieces, once := follow(p), follow(p)
			for range 8 {
				lists := [][]impl.Item{someTurned(r, 2, 4), someTurned(r, 2, 4), someTurned(r, 2, 4)}
				if ok, meant := pieces.turn(t, lists); !ok || !meant {
					t.Fatal(text, listsText(lists))
				}
			}
			if ok, meant := once.turn(t, pieces.tables); !ok || !meant || !sameItems(once.view, pieces.view) {
				t.Errorf("%s over %q: %s at once, %s in pieces", text, listsText(pieces.tables), impl.ZText(once.view), impl.ZText(pieces.view))
			}
			wantKept(t, text, once.flow, pieces.flow)
			// And all is taken back again.
			var back [][]impl.Item
			for _, z := range pieces.tables {
				gone, _ := withoutByForm(nil, z)
				back = append(back, gone)
			}
			if ok, meant := pieces.turn(t, back); !ok || !meant || len(pieces.view) > 0 {
				t.Errorf("%s: %s is left", text, impl.ZText(pieces.view))
			}
		}
	}
}

// roomyFlow is a flow with room behind all its lists, filled with what no call may touch.
func roomyFlow(f impl.Flow) impl.Flow {
	var kids []impl.Flow
	for _, kid := range f.Kids {
		kids = append(kids, roomyFlow(kid))
	}
	return impl.Flow{Plan: roomyPlan(f.Plan), Left: roomyRuns(f.Left), Right: roomyRuns(f.Right), Kids: append(kids, impl.Flow{Plan: tableOf(77)}, impl.Flow{Plan: tableOf(78)})[:len(kids)]}
}

// span is the memory of a list, with the room behind its end.
type span struct {
	from, to uintptr
	where    string
}

// spansOf is the memory of all lists that a value can reach, also from behind the ends of lists.
func spansOf(where string, v reflect.Value) []span {
	var all []span
	switch v.Kind() {
	case reflect.Struct:
		for i := range v.NumField() {
			all = append(all, spansOf(where+"."+v.Type().Field(i).Name, v.Field(i))...)
		}
	case reflect.Slice:
		if v.Cap() == 0 {
			return nil
		}
		whole := v.Slice(0, v.Cap())
		all = append(all, span{v.Pointer(), v.Pointer() + uintptr(v.Cap())*v.Type().Elem().Size(), where})
		for i := range whole.Len() {
			all = append(all, spansOf(fmt.Sprint(where, "[", i, "]"), whole.Index(i))...)
		}
	}
	return all
}

// shownWithRoom is all that a value has, with what is behind the ends of its lists.
func shownWithRoom(v reflect.Value) string {
	var text strings.Builder
	showWithRoom(&text, v)
	return text.String()
}

func showWithRoom(text *strings.Builder, v reflect.Value) {
	switch v.Kind() {
	case reflect.Struct:
		text.WriteString("{")
		for i := range v.NumField() {
			showWithRoom(text, v.Field(i))
		}
		text.WriteString("}")
	case reflect.Slice:
		text.WriteString(strconv.Itoa(v.Len()) + "[")
		whole := v.Slice(0, v.Cap())
		for i := range whole.Len() {
			showWithRoom(text, whole.Index(i))
		}
		text.WriteString("]")
	case reflect.Int:
		text.WriteString(strconv.FormatInt(v.Int(), 10) + ";")
	default:
		text.WriteString(fmt.Sprint(v) + ";")
	}
}

// wantApart asks that no two lists share memory.
func wantApart(t *testing.T, what string, spans []span) {
	t.Helper()
	slices.SortFunc(spans, func(a, b span) int {
		if a.from < b.from {
			return -1
		}
		return 1
	})
	for i := 1; i < len(spans); i++ {
		if spans[i].from < spans[i-1].to {
			t.Fatalf("%s: %s and %s share memory", what, spans[i-1].where, spans[i].where)
		}
	}
}

// flowAnswer is all that a call of a flow can tell.
type flowAnswer struct {
	Flow impl.Flow
	Told []impl.Item
}

// flowGiven is all that a call of a flow can be given.
type flowGiven struct {
	Flow   impl.Flow
	Other  impl.Flow
	Plan   impl.Plan
	Turned [][]impl.Item
}

// flowCalls is each call of a flow, by name.
func flowCalls() map[string]func(in flowGiven) flowAnswer {
	calls := map[string]func(in flowGiven) flowAnswer{
		"FlowOf": func(in flowGiven) flowAnswer { return flowAnswer{Flow: impl.FlowOf(in.Plan)} },
		"FlowStep": func(in flowGiven) flowAnswer {
			f, told, _ := impl.FlowStep(in.Flow, in.Turned)
			return flowAnswer{f, told}
		},
		"the rest": func(in flowGiven) flowAnswer {
			impl.FlowOk(in.Flow)
			impl.FlowSame(in.Flow, in.Other)
			impl.FlowMany(in.Flow)
			return flowAnswer{}
		},
	}
	for _, fuel := range []int{-1, 0, 3, 8, 1000} {
		calls[fmt.Sprint("FlowMerge ", fuel)] = func(in flowGiven) flowAnswer {
			f, _ := impl.FlowMerge(in.Flow, fuel)
			return flowAnswer{Flow: f}
		}
	}
	return calls
}

// wantCallsNewMemory asks of each call that it leaves what it is given as it is, also behind its ends, and that its answer shares no memory with that, nor with itself.
func wantCallsNewMemory[G any, A any](t *testing.T, what string, in G, calls map[string]func(in G) A) {
	t.Helper()
	was := shownWithRoom(reflect.ValueOf(in))
	givens := spansOf("what is given", reflect.ValueOf(in))
	for name, call := range calls {
		answer := call(in)
		if got := shownWithRoom(reflect.ValueOf(in)); got != was {
			t.Fatalf("%s of %s changes what it is given: %s; it was %s", name, what, got, was)
		}
		spans := spansOf("the answer", reflect.ValueOf(answer))
		wantApart(t, name+" of "+what, spans)
		for _, given := range givens {
			for _, answered := range spans {
				if given.from < answered.to && answered.from < given.to {
					t.Fatalf("%s of %s: %s and %s share memory", name, what, given.where, answered.where)
				}
			}
		}
	}
}

func wantNewMemory(t *testing.T, what string, in flowGiven) {
	t.Helper()
	wantCallsNewMemory(t, what, in, flowCalls())
}

func roomyLists(lists [][]impl.Item) [][]impl.Item {
	return roomyRuns(impl.Spine{Runs: lists}).Runs
}

func TestFlowsAreNewMemory(t *testing.T) {
	for text := range flowKinds {
		f := flowRead(t, text)
		for at, turned := range flowTimes {
			lists := listsRead(t, turned)
			in := flowGiven{roomyFlow(f), roomyFlow(f), roomyPlan(f.Plan), roomyLists(lists)}
			wantNewMemory(t, fmt.Sprint(text, " at ", at), in)
			f, _, _ = impl.FlowStep(f, lists)
		}
	}
	full := fullFlow(t)
	for _, turned := range []string{"none", "", "1,1*1 / 1,5*1 / 1,5*-1", "1*1 / 2*1", "/ /", "/ / /"} {
		wantNewMemory(t, fmt.Sprintf("a full flow with %q", turned), flowGiven{roomyFlow(full), roomyFlow(full), roomyPlan(full.Plan), roomyLists(listsRead(t, turned))})
	}
}

// TestFlowsThatTellFalseAreNewMemory asks the same of steps that are too much, and of flows and lists that are not ok.
func TestFlowsThatTellFalseAreNewMemory(t *testing.T) {
	for name, c := range tooMuch(t) {
		f := flowRead(t, c.text)
		for _, turned := range c.ahead {
			f, _, _ = impl.FlowStep(f, turned)
		}
		wantNewMemory(t, name, flowGiven{roomyFlow(f), roomyFlow(f), roomyPlan(f.Plan), roomyLists(c.much)})
	}
	full := fullFlow(t)
	for name, z := range wrongItems() {
		wantNewMemory(t, name, flowGiven{roomyFlow(full), impl.Flow{}, impl.Plan{}, roomyLists([][]impl.Item{many(1, 1, 1), z})})
		wrong := changedAt(full, 1, func(part *impl.Flow) { part.Left = runsOf(z) })
		wantNewMemory(t, name+" in a spine", flowGiven{roomyFlow(wrong), roomyFlow(full), roomyPlan(wrong.Plan), roomyLists([][]impl.Item{many(1, 1, 1)})})
	}
	wantNewMemory(t, "a plan that can not be written", flowGiven{impl.Flow{}, impl.Flow{}, roomyPlan(nested(6, tableOf(0))), nil})
}

// TestFlowOfSharedMemory gives a flow whose parts are one list in memory each: those of an answer are apart all the same.
func TestFlowOfSharedMemory(t *testing.T) {
	z := roomy(read(t, "1*1 2,2*1"))
	keys := append([]int{0, 0}, 5)[:1]
	kids := []impl.Plan{{Kind: 7, Keys: keys, Kids: []impl.Plan{tableOf(0)}}, {Kind: 7, Keys: keys, Kids: []impl.Plan{tableOf(0)}}}
	kids[1].Kids = kids[0].Kids
	p := impl.Plan{Kind: 4, Kids: kids}
	runs := [][]impl.Item{z, z}
	kid := impl.Flow{Plan: kids[0], Left: impl.Spine{Runs: runs}, Kids: []impl.Flow{{Plan: tableOf(0)}}}
	f := impl.Flow{Plan: p, Left: impl.Spine{Runs: runs}, Right: impl.Spine{Runs: runs}, Kids: []impl.Flow{kid, kid}}
	if !impl.FlowOk(f) {
		t.Fatal(flowText(f))
	}
	in := flowGiven{f, f, p, [][]impl.Item{z, z, z}}
	wantNewMemory(t, "one list for all", in)
	apart := flowGiven{copiedFlow(f), copiedFlow(f), deepCopy(p), copiedLists(in.Turned)}
	for name, call := range flowCalls() {
		got, want := call(in), call(apart)
		wantFlow(t, name, got.Flow, want.Flow)
		wantTold(t, name, got.Told, true, want.Told, true)
	}
}
