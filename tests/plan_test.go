package tests

import (
	"fmt"
	"math"
	"regexp"
	"slices"
	"strconv"
	"strings"
	"testing"

	"loop.example/milldam/impl"
)

func tableOf(n int) impl.Plan { return impl.Plan{Kind: 1, N: n} }

func whereOf(x impl.Test, kid impl.Plan) impl.Plan {
	return impl.Plan{Kind: 2, Test: x, Kids: []impl.Plan{kid}}
}

func mapOf(kid impl.Plan, cells ...impl.Cell) impl.Plan {
	return impl.Plan{Kind: 3, Cells: cells, Kids: []impl.Plan{kid}}
}

func joinOf(a int, b int, first impl.Plan, second impl.Plan) impl.Plan {
	return impl.Plan{Kind: 4, A: a, B: b, Kids: []impl.Plan{first, second}}
}

func bothOf(first impl.Plan, second impl.Plan) impl.Plan {
	return impl.Plan{Kind: 5, Kids: []impl.Plan{first, second}}
}

func onceOf(kid impl.Plan) impl.Plan { return impl.Plan{Kind: 6, Kids: []impl.Plan{kid}} }

func groupOf(keys []int, agg int, col int, kid impl.Plan) impl.Plan {
	return impl.Plan{Kind: 7, Keys: keys, Agg: agg, Col: col, Kids: []impl.Plan{kid}}
}

func less(l impl.Cell, r impl.Cell) impl.Test { return impl.Test{Kind: 1, L: l, R: r} }

// nested is a plan with so many once around it.
func nested(around int, p impl.Plan) impl.Plan {
	for range around {
		p = onceOf(p)
	}
	return p
}

// planShown is all that a plan has; a list that is nil looks as one that is empty.
func planShown(p impl.Plan) string { return fmt.Sprint(p) }

// deepCopy is a plan that shares nothing with the one it is of.
func deepCopy(p impl.Plan) impl.Plan {
	p.Cells, p.Keys, p.Kids = slices.Clone(p.Cells), slices.Clone(p.Keys), slices.Clone(p.Kids)
	for i := range p.Kids {
		p.Kids[i] = deepCopy(p.Kids[i])
	}
	return p
}

// headText is how a head is written, said apart from the program.
func headText(p impl.Plan) string {
	switch p.Kind {
	case 1:
		return fmt.Sprint("t", p.N)
	case 2:
		return "where " + impl.TestText(p.Test)
	case 3:
		var cells []string
		for _, c := range p.Cells {
			cells = append(cells, impl.CellText(c))
		}
		return "map " + strings.Join(cells, ",")
	case 4:
		return fmt.Sprint("join ", p.A, " ", p.B)
	case 5:
		return "both"
	case 6:
		return "once"
	}
	keys := strings.ReplaceAll(strings.Trim(fmt.Sprint(p.Keys), "[]"), " ", ",")
	if keys == "" {
		keys = "-"
	}
	return fmt.Sprint("group ", keys, " ", []string{"count", "sum", "least", "most"}[p.Agg], " ", p.Col)
}

func textByForm(p impl.Plan) string {
	text := headText(p)
	for _, kid := range p.Kids {
		text += " " + textByForm(kid)
	}
	return text
}

// partsByForm lists a plan's parts; deepest is how many others are around one, at most.
func partsByForm(p impl.Plan) (list []impl.Plan, deepest int) {
	list = []impl.Plan{p}
	for _, kid := range p.Kids {
		more, deep := partsByForm(kid)
		list, deepest = append(list, more...), max(deepest, deep+1)
	}
	return list, deepest
}

// partOkByForm is whether a part is as it must be over kids so wide, said apart from the program.
func partOkByForm(p impl.Plan, kids []int) bool {
	in := func(at int, wide int) bool { return at >= 0 && at < wide }
	rest := p
	rest.Kind, rest.Kids = 0, nil
	good := false
	switch {
	case p.Kind < 1 || p.Kind > 7 || len(kids) != []int{0, 1, 1, 2, 2, 1, 1}[p.Kind-1]:
		return false
	case p.Kind == 1:
		good, rest.N = in(p.N, 3), 0
	case p.Kind == 2:
		good, rest.Test = testOkByForm(p.Test, kids[0]), impl.Test{}
	case p.Kind == 3:
		wrong := func(c impl.Cell) bool { return !cellOkByForm(c, kids[0]) }
		good, rest.Cells = len(p.Cells) >= 1 && len(p.Cells) <= 6 && !slices.ContainsFunc(p.Cells, wrong), nil
	case p.Kind == 4:
		good, rest.A, rest.B = in(p.A, kids[0]) && in(p.B, kids[1]), 0, 0
	case p.Kind == 5:
		good = kids[0] == kids[1]
	case p.Kind == 6:
		good = true
	case p.Kind == 7:
		good = len(p.Keys) <= 5 && in(p.Agg, 4) && in(p.Col, kids[0])
		count := map[int]int{}
		for _, key := range p.Keys {
			count[key]++
			good = good && in(key, kids[0]) && count[key] == 1
		}
		rest.Keys, rest.Agg, rest.Col = nil, 0, 0
	}
	return good && planShown(rest) == planShown(impl.Plan{})
}

func writableByForm(p impl.Plan) bool {
	list, deepest := partsByForm(p)
	for _, part := range list {
		if !partOkByForm(part, slices.Repeat([]int{6}, len(part.Kids))) {
			return false
		}
	}
	return len(list) <= 10 && deepest <= 5
}

// wideByForm is how wide a plan is that can be written, or -1.
func wideByForm(p impl.Plan, wides []int) int {
	var kids []int
	for _, kid := range p.Kids {
		kids = append(kids, wideByForm(kid, wides))
	}
	if slices.Contains(kids, -1) || !partOkByForm(p, kids) || p.Kind == 1 && p.N >= len(wides) {
		return -1
	}
	wide := 0
	switch p.Kind {
	case 1:
		wide = wides[p.N]
	case 3:
		wide = len(p.Cells)
	case 4:
		wide = kids[0] + kids[1]
	case 7:
		wide = len(p.Keys) + 1
	default:
		wide = kids[0]
	}
	if wide < 1 || wide > 6 {
		return -1
	}
	return wide
}

// someWides is wides of tables: none to three, and too many; some are no wides.
var someWides = [][]int{nil, {2}, {2, 3}, {2, 2, 2}, {1, 1, 1}, {6, 6, 6}, {3, 2, 1}, {1, 5, 6}, {0, 1, 7}, {7, -1, 6}, {math.MaxInt, 3, math.MinInt}, {2, 2, 2, 2}, {6, 6, 6, 6, 6}}

// wantPlan holds all functions of plans against what is said apart from the program.
func wantPlan(t *testing.T, p impl.Plan) {
	t.Helper()
	many, text := 0, ""
	writable := writableByForm(p)
	list, _ := partsByForm(p)
	if writable {
		many, text = len(list), textByForm(p)
	}
	if got := impl.PlanMany(p); got != many {
		t.Fatalf("PlanMany(%v) = %d; want %d", p, got, many)
	}
	if got := impl.PlanText(p); got != text {
		t.Fatalf("PlanText(%v) = %q; want %q", p, got, text)
	}
	for _, n := range []int{math.MinInt, -1, 0, 1, 2, 3, math.MaxInt} {
		of := func(part impl.Plan) bool { return part.Kind == 1 && part.N == n }
		if got, want := impl.PlanUses(p, n), writable && slices.ContainsFunc(list, of); got != want {
			t.Fatalf("PlanUses(%v, %d) = %v", p, n, got)
		}
	}
	for _, wides := range someWides {
		want := -1
		if writable && len(wides) <= 3 {
			want = wideByForm(p, wides)
		}
		if got := impl.PlanWide(p, wides); got != want {
			t.Fatalf("PlanWide(%v, %v) = %d; want %d", p, wides, got, want)
		}
	}
	if !impl.PlanSame(p, deepCopy(p)) {
		t.Fatalf("%v is not the same as its copy", p)
	}
	if writable {
		wantPlanBack(t, p, text)
	}
}

func wantPlanBack(t *testing.T, p impl.Plan, text string) {
	t.Helper()
	got, ok := impl.PlanRead(text)
	if !ok || planShown(got) != planShown(p) || !impl.PlanSame(got, p) {
		t.Fatalf("%q is read as %v, %v", text, got, ok)
	}
}

func TestPlanKinds(t *testing.T) {
	kinds := []int{impl.PlanTable, impl.PlanWhere, impl.PlanMap, impl.PlanJoin, impl.PlanBoth, impl.PlanOnce, impl.PlanGroup}
	if !slices.Equal(kinds, []int{1, 2, 3, 4, 5, 6, 7}) {
		t.Error(kinds)
	}
	if aggs := []int{impl.AggCount, impl.AggSum, impl.AggLeast, impl.AggMost}; !slices.Equal(aggs, []int{0, 1, 2, 3}) {
		t.Error(aggs)
	}
	if impl.PlanSize != 10 || impl.PlanDeep != 6 || impl.PlanNames != 3 {
		t.Error(impl.PlanSize, impl.PlanDeep, impl.PlanNames)
	}
}

// plainPlans is plans of each kind, alone and as parts, with their texts.
func plainPlans() map[string]impl.Plan {
	not := impl.Test{Kind: 2, Not: true, L: sumOf(1, 0), R: num(-7)}
	return map[string]impl.Plan{
		"t0":                        tableOf(0),
		"t2":                        tableOf(2),
		"where c0<c1 t0":            whereOf(less(col(0), col(1)), tableOf(0)),
		"where !c1+c0=#-7 t1":       whereOf(not, tableOf(1)),
		"map c0,#5,c1+c0 t0":        mapOf(tableOf(0), col(0), num(5), sumOf(1, 0)),
		"map #0 t1":                 mapOf(tableOf(1), num(0)),
		"join 0 1 t0 t1":            joinOf(0, 1, tableOf(0), tableOf(1)),
		"join 5 0 t2 t2":            joinOf(5, 0, tableOf(2), tableOf(2)),
		"both t0 t1":                bothOf(tableOf(0), tableOf(1)),
		"once t0":                   onceOf(tableOf(0)),
		"group 0 count 1 t1":        groupOf([]int{0}, 0, 1, tableOf(1)),
		"group - sum 2 t1":          groupOf(nil, 1, 2, tableOf(1)),
		"group 1,0 least 0 t0":      groupOf([]int{1, 0}, 2, 0, tableOf(0)),
		"group 4,3,2,1,0 most 5 t2": groupOf([]int{4, 3, 2, 1, 0}, 3, 5, tableOf(2)),
		"once where c0<c1 t0":       onceOf(whereOf(less(col(0), col(1)), tableOf(0))),
		"both once t0 map c1,c0 t1": bothOf(onceOf(tableOf(0)), mapOf(tableOf(1), col(1), col(0))),
		"join 0 0 both t0 t0 group - most 0 t1": joinOf(0, 0, bothOf(tableOf(0), tableOf(0)),
			groupOf([]int{}, 3, 0, tableOf(1))),
		"group 0 sum 3 join 0 0 t0 t1": groupOf([]int{0}, 1, 3, joinOf(0, 0, tableOf(0), tableOf(1))),
		"where !c1+c0=#-7 once join 0 1 t2 map c0 t1": whereOf(not,
			onceOf(joinOf(0, 1, tableOf(2), mapOf(tableOf(1), col(0))))),
	}
}

func TestPlanTexts(t *testing.T) {
	for text, p := range plainPlans() {
		if got := impl.PlanText(p); got != text {
			t.Errorf("%v is %q; want %q", p, got, text)
		}
		wantPlanBack(t, p, text)
		wantPlan(t, p)
	}
}

// planRead is a plan by its text, which must be one.
func planRead(t *testing.T, text string) impl.Plan {
	t.Helper()
	p, ok := impl.PlanRead(text)
	if !ok {
		t.Fatalf("%q is no plan", text)
	}
	return p
}

func TestPlanWidths(t *testing.T) {
	for _, c := range []struct {
		text  string
		wides []int
		want  int
	}{
		{"t0", []int{1}, 1}, {"t0", []int{6}, 6}, {"t0", []int{0}, -1}, {"t0", []int{7}, -1}, {"t0", []int{-1}, -1}, {"t0", nil, -1},
		{"t0", []int{2, 0, 9}, 2}, {"t1", []int{2, 0, 9}, -1}, {"t2", []int{2, 0, 9}, -1}, {"t2", []int{9, 9, 4}, 4}, {"t2", []int{1, 1}, -1},
		{"t0", []int{2, 2, 2}, 2}, {"t0", []int{2, 2, 2, 2}, -1},
		{"where c1<#1 t0", []int{2}, 2}, {"where c2<#1 t0", []int{2}, -1}, {"where #1=c2 t0", []int{2}, -1}, {"where #1=c0+c2 t0", []int{2}, -1}, {"where #1=c0+c2 t0", []int{3}, 3},
		{"map c0 t0", []int{6}, 1}, {"map c0,c1,c1,c0,#1,c0+c1 t0", []int{2}, 6}, {"map c0,c2 t0", []int{2}, -1}, {"map #1 t0", []int{0}, -1}, {"map #1 t0", []int{7}, -1}, {"map #1 t0", nil, -1},
		{"join 0 0 t0 t1", []int{2, 3}, 5}, {"join 1 2 t0 t1", []int{2, 3}, 5}, {"join 2 0 t0 t1", []int{2, 3}, -1}, {"join 0 3 t0 t1", []int{2, 3}, -1}, {"join 2 1 t1 t0", []int{2, 3}, 5},
		{"join 0 0 t0 t1", []int{3, 3}, 6}, {"join 0 0 t0 t1", []int{1, 5}, 6}, {"join 0 0 t0 t1", []int{1, 6}, -1}, {"join 0 0 t0 t1", []int{4, 3}, -1}, {"join 0 0 t0 t1", []int{6, 6}, -1}, {"join 0 0 t0 t1", []int{8, -3}, -1},
		{"map c0 join 0 0 t0 t1", []int{4, 3}, -1}, {"map c5 join 0 0 t0 t1", []int{3, 3}, 1},
		{"both t0 t1", []int{2, 2}, 2}, {"both t0 t1", []int{2, 3}, -1}, {"both t0 t1", []int{3, 2}, -1}, {"both t0 t1", []int{6, 6}, 6}, {"both t0 t1", []int{7, 7}, -1}, {"both t0 t1", []int{0, 0}, -1},
		{"both t0 map c0,c1 t1", []int{2, 3}, 2}, {"once both t0 t1", []int{2, 3}, -1}, {"map c0 both t0 t1", []int{2, 3}, -1},
		{"once t0", []int{6}, 6}, {"once t0", []int{7}, -1}, {"once t1", []int{6}, -1},
		{"group - count 0 t0", []int{1}, 1}, {"group - count 1 t0", []int{1}, -1}, {"group - sum 5 t0", []int{6}, 1}, {"group - sum 5 t0", []int{5}, -1},
		{"group 0 least 0 t0", []int{1}, 2}, {"group 1 least 0 t0", []int{1}, -1}, {"group 0,1 most 0 t0", []int{2}, 3}, {"group 1,0 most 1 t0", []int{2}, 3}, {"group 2,0 most 1 t0", []int{2}, -1},
		{"group 0,1,2,3,4 most 4 t0", []int{5}, 6}, {"group 0,1,2,3,4 most 4 t0", []int{4}, -1}, {"group 5,4,3,2,1 sum 0 t0", []int{6}, 6},
		{"where c1<c2 group 0,1 sum 1 t0", []int{2}, 3}, {"where c1<c3 group 0,1 sum 1 t0", []int{2}, -1},
	} {
		if got := impl.PlanWide(planRead(t, c.text), c.wides); got != c.want {
			t.Errorf("%q over %v is %d wide; want %d", c.text, c.wides, got, c.want)
		}
	}
}

func TestPlanTables(t *testing.T) {
	for n := -2; n <= 5; n++ {
		is := n >= 0 && n <= 2
		many := map[bool]int{true: 1}[is]
		if got := impl.PlanMany(tableOf(n)); got != many || impl.PlanUses(tableOf(n), n) != is || (impl.PlanText(tableOf(n)) != "") != is {
			t.Errorf("table %d: %d parts", n, got)
		}
		if _, ok := impl.PlanRead("t" + strconv.Itoa(n)); ok != is {
			t.Errorf("t%d is read: %v", n, ok)
		}
	}
	p := planRead(t, "join 0 0 once t0 where c0<#2 t2")
	for n := -1; n <= 3; n++ {
		if impl.PlanUses(p, n) != (n == 0 || n == 2) {
			t.Errorf("table %d", n)
		}
	}
	if impl.PlanUses(planRead(t, "join 1 1 t0 t0"), 1) {
		t.Error("a place is no table")
	}
	if impl.PlanUses(joinOf(6, 0, tableOf(0), tableOf(1)), 1) {
		t.Error("of what can not be written")
	}
}

func TestPlanManyParts(t *testing.T) {
	for text, want := range map[string]int{"t0": 1, "once t0": 2, "both t0 t0": 3, "once both t0 t0": 4, "join 0 0 both t0 t1 once map c0 t2": 7} {
		if got := impl.PlanMany(planRead(t, text)); got != want {
			t.Errorf("%q has %d parts", text, got)
		}
	}
}

// TestPlanSize asks for plans of as many parts as may be, and of one more, none of them too deep.
func TestPlanSize(t *testing.T) {
	nine := bothOf(bothOf(tableOf(0), tableOf(0)), bothOf(tableOf(0), bothOf(tableOf(0), tableOf(0))))
	eleven := bothOf(nine, tableOf(0))
	ten := onceOf(nine)
	for _, p := range []impl.Plan{nine, ten, eleven, onceOf(ten), bothOf(nested(3, tableOf(0)), nested(4, tableOf(0))), bothOf(nested(4, tableOf(0)), nested(4, tableOf(0)))} {
		wantPlan(t, p)
	}
	if impl.PlanMany(ten) != 10 || impl.PlanWide(ten, []int{2}) != 2 || !impl.PlanUses(ten, 0) || impl.PlanText(ten) == "" {
		t.Error("10 parts", impl.PlanMany(ten))
	}
	for _, p := range []impl.Plan{eleven, onceOf(ten)} {
		if impl.PlanMany(p) != 0 || impl.PlanWide(p, []int{2}) != -1 || impl.PlanUses(p, 0) || impl.PlanText(p) != "" {
			t.Error("11 parts", impl.PlanMany(p))
		}
	}
	text := "once both both t0 t0 both t0 both t0 t0"
	if got := planRead(t, text); !impl.PlanSame(got, ten) {
		t.Error(got)
	}
	for _, text := range []string{"once " + text, "both both both t0 t0 both t0 both t0 t0 t0"} {
		if got, ok := impl.PlanRead(text); ok {
			t.Error(got)
		}
	}
}

func TestPlanDeep(t *testing.T) {
	for around := range 9 {
		p := nested(around, tableOf(1))
		wantPlan(t, p)
		many, wide, is := around+1, 4, around <= 5
		if !is {
			many, wide = 0, -1
		}
		if impl.PlanMany(p) != many || impl.PlanWide(p, []int{1, 4}) != wide || impl.PlanUses(p, 1) != is || (impl.PlanText(p) != "") != is {
			t.Errorf("%d others around: %d parts", around, impl.PlanMany(p))
		}
		if _, ok := impl.PlanRead(strings.Repeat("once ", around) + "t1"); ok != is {
			t.Errorf("%d others around: read is %v", around, ok)
		}
		for _, kids := range [][]impl.Plan{{p, tableOf(0)}, {tableOf(0), p}} {
			wantPlan(t, bothOf(kids[0], kids[1]))
			wantPlan(t, joinOf(0, 0, kids[0], kids[1]))
		}
	}
}

func TestPlanCells(t *testing.T) {
	for count := range 9 {
		cells := []impl.Cell{col(0), num(1), sumOf(0, 0), col(0), num(-9), col(0), col(0), col(0)}[:count]
		p := mapOf(tableOf(0), cells...)
		wantPlan(t, p)
		want := count
		if count < 1 || count > 6 {
			want = -1
		}
		if got := impl.PlanWide(p, []int{1}); got != want {
			t.Errorf("%d Cells are %d wide", count, got)
		}
		text := "map " + strings.Join(slices.Repeat([]string{"c0"}, count), ",") + " t0"
		if _, ok := impl.PlanRead(text); ok != (want > 0) {
			t.Errorf("%q is read: %v", text, ok)
		}
	}
}

func TestPlanKeys(t *testing.T) {
	for _, c := range []struct {
		keys []int
		want int
	}{
		{nil, 1}, {[]int{}, 1}, {[]int{0}, 2}, {[]int{5}, 2}, {[]int{5, 0}, 3}, {[]int{0, 1, 2, 3, 4}, 6}, {[]int{5, 1, 4, 2, 3}, 6},
		{[]int{0, 1, 2, 3, 4, 5}, -1}, {[]int{0, 0}, -1}, {[]int{1, 2, 1}, -1}, {[]int{0, 1, 2, 3, 0}, -1}, {[]int{6}, -1}, {[]int{-1}, -1}, {[]int{0, 6}, -1},
		{[]int{math.MinInt}, -1}, {[]int{math.MaxInt}, -1}, {make([]int, 100000), -1},
	} {
		for agg := -1; agg <= 4; agg++ {
			p := groupOf(c.keys, agg, 5, tableOf(0))
			want := c.want
			if agg < 0 || agg > 3 {
				want = -1
			}
			if got := impl.PlanWide(p, []int{6}); got != want || (impl.PlanText(p) != "") != (want > 0) {
				t.Errorf("keys %v, agg %d: %d wide", c.keys, agg, got)
			}
			wantPlan(t, p)
		}
	}
}

func TestPlanAggs(t *testing.T) {
	for agg, word := range []string{"count", "sum", "least", "most"} {
		text := "group - " + word + " 0 t0"
		p := planRead(t, text)
		if p.Agg != agg || impl.PlanText(p) != text {
			t.Errorf("%q is %v", text, p)
		}
	}
	for _, agg := range []int{math.MinInt, -1, 4, 5, math.MaxInt} {
		p := groupOf(nil, agg, 0, tableOf(0))
		if impl.PlanMany(p) != 0 || impl.PlanText(p) != "" || impl.PlanWide(p, []int{1}) != -1 {
			t.Errorf("agg %d", agg)
		}
	}
}

// changes is other values for each field of a part, one field at a time.
func changes() []func(p *impl.Plan) {
	var all []func(p *impl.Plan)
	for _, n := range []int{math.MinInt, -1, 0, 1, 2, 3, 4, 5, 6, 7, 8, math.MaxInt} {
		all = append(all,
			func(p *impl.Plan) { p.Kind = n }, func(p *impl.Plan) { p.N = n }, func(p *impl.Plan) { p.A = n }, func(p *impl.Plan) { p.B = n },
			func(p *impl.Plan) { p.Agg = n }, func(p *impl.Plan) { p.Col = n }, func(p *impl.Plan) { p.Keys = []int{n} }, func(p *impl.Plan) { p.Keys = append(slices.Clone(p.Keys), n) },
			func(p *impl.Plan) { p.Test.Kind = n }, func(p *impl.Plan) { p.Test.L.A = n }, func(p *impl.Plan) { p.Test.R.N = n }, func(p *impl.Plan) { p.Test = less(col(n), num(0)) },
			func(p *impl.Plan) { p.Test = less(num(0), col(n)) }, func(p *impl.Plan) { p.Cells = []impl.Cell{col(n)} }, func(p *impl.Plan) { p.Cells = append(slices.Clone(p.Cells), sumOf(0, n)) })
	}
	for _, c := range wrongCells() {
		all = append(all, func(p *impl.Plan) { p.Cells = []impl.Cell{c} }, func(p *impl.Plan) { p.Test.L = c }, func(p *impl.Plan) { p.Test.R = c })
	}
	for _, kids := range [][]impl.Plan{nil, {tableOf(0)}, {tableOf(0), tableOf(1)}, {tableOf(1), tableOf(1)}, {tableOf(0), tableOf(0), tableOf(0)}, {{}}, {tableOf(3)}, {onceOf(tableOf(0)), {}}, {nested(5, tableOf(2))}} {
		all = append(all, func(p *impl.Plan) { p.Kids = kids })
	}
	return append(all, func(p *impl.Plan) { p.Test.Not = !p.Test.Not }, func(p *impl.Plan) { p.Cells = nil }, func(p *impl.Plan) { p.Keys = nil },
		func(p *impl.Plan) { p.Cells = []impl.Cell{} }, func(p *impl.Plan) { p.Keys = []int{} }, func(p *impl.Plan) { p.Kids = []impl.Plan{} },
		func(p *impl.Plan) { slices.Reverse(p.Kids) }, func(p *impl.Plan) { slices.Reverse(p.Keys) }, func(p *impl.Plan) { slices.Reverse(p.Cells) })
}

// partAt is the part of a plan at a place, the outer ahead of the inner; nil behind the last.
func partAt(p *impl.Plan, at *int) *impl.Plan {
	if *at == 0 {
		return p
	}
	for i := range p.Kids {
		*at--
		if part := partAt(&p.Kids[i], at); part != nil {
			return part
		}
	}
	return nil
}

// TestPlanOneChange changes one field of one part, at the top or deep inside, and holds all functions against what is said apart from the program.
func TestPlanOneChange(t *testing.T) {
	for _, p := range plainPlans() {
		list, _ := partsByForm(p)
		for i := range list {
			for _, change := range changes() {
				other, at := deepCopy(p), i
				change(partAt(&other, &at))
				wantPlan(t, other)
				want := planShown(p) == planShown(other)
				if impl.PlanSame(p, other) != want || impl.PlanSame(other, p) != want {
					t.Fatalf("%v and %v are the same: not %v", p, other, want)
				}
			}
		}
	}
}

// TestPlanSameOneField changes each field of a part that has something in all of them, for every part of a deep plan.
func TestPlanSameOneField(t *testing.T) {
	full := impl.Plan{Kind: 1, N: 1, Test: impl.Test{Kind: 1, Not: true, L: impl.Cell{Kind: 1, A: 1, B: 1, N: 1}, R: impl.Cell{Kind: 1, A: 1, B: 1, N: 1}}, Cells: []impl.Cell{{Kind: 1, A: 1, B: 1, N: 1}}, A: 1, B: 1, Keys: []int{1}, Agg: 1, Col: 1}
	deep := full
	for range 8 {
		around := deepCopy(full)
		around.Kids = []impl.Plan{deepCopy(full), deep}
		deep = around
	}
	list, _ := partsByForm(deep)
	for name, change := range map[string]func(p *impl.Plan){
		"Kind": func(p *impl.Plan) { p.Kind++ }, "N": func(p *impl.Plan) { p.N++ }, "A": func(p *impl.Plan) { p.A++ }, "B": func(p *impl.Plan) { p.B++ }, "Agg": func(p *impl.Plan) { p.Agg++ }, "Col": func(p *impl.Plan) { p.Col++ },
		"Test.Kind": func(p *impl.Plan) { p.Test.Kind++ }, "Test.Not": func(p *impl.Plan) { p.Test.Not = false }, "Test.L.Kind": func(p *impl.Plan) { p.Test.L.Kind++ }, "Test.L.A": func(p *impl.Plan) { p.Test.L.A++ }, "Test.L.B": func(p *impl.Plan) { p.Test.L.B++ }, "Test.L.N": func(p *impl.Plan) { p.Test.L.N++ },
		"Test.R.Kind": func(p *impl.Plan) { p.Test.R.Kind++ }, "Test.R.A": func(p *impl.Plan) { p.Test.R.A++ }, "Test.R.B": func(p *impl.Plan) { p.Test.R.B++ }, "Test.R.N": func(p *impl.Plan) { p.Test.R.N++ },
		"a cell": func(p *impl.Plan) { p.Cells[0].N++ }, "no cells": func(p *impl.Plan) { p.Cells = nil }, "more cells": func(p *impl.Plan) { p.Cells = append(p.Cells, impl.Cell{}) },
		"a key": func(p *impl.Plan) { p.Keys[0]++ }, "no keys": func(p *impl.Plan) { p.Keys = nil }, "more keys": func(p *impl.Plan) { p.Keys = append(p.Keys, 0) },
		"more kids": func(p *impl.Plan) { p.Kids = append(p.Kids, impl.Plan{}) },
	} {
		for i := range list {
			other, at := deepCopy(deep), i
			change(partAt(&other, &at))
			if impl.PlanSame(deep, other) || impl.PlanSame(other, deep) || !impl.PlanSame(other, deepCopy(other)) {
				t.Fatalf("%s of part %d", name, i)
			}
		}
	}
	if !impl.PlanSame(deep, deepCopy(deep)) || !impl.PlanSame(impl.Plan{}, impl.Plan{}) || impl.PlanSame(deep, impl.Plan{}) {
		t.Error("whole plans")
	}
}

func TestPlanNothing(t *testing.T) {
	wantPlan(t, impl.Plan{})
	empty := impl.Plan{Cells: []impl.Cell{}, Keys: []int{}, Kids: []impl.Plan{}}
	if !impl.PlanSame(impl.Plan{}, empty) || impl.PlanText(empty) != "" || impl.PlanMany(empty) != 0 || impl.PlanUses(empty, 0) || impl.PlanWide(empty, []int{1}) != -1 {
		t.Error("nothing")
	}
}

// round is a plan that is a part of itself, with so many kids around each other.
func round(p impl.Plan, steps int) impl.Plan {
	first := slices.Clone(p.Kids)
	for i := range first {
		inner := nested(steps, onceOf(tableOf(0)))
		at := steps
		partAt(&inner, &at).Kids = first
		first[i] = inner
	}
	p.Kids = first
	return p
}

// TestPlanThatEndsNowhere asks for an answer also of plans that go round, and of such as have very many parts.
func TestPlanThatEndsNowhere(t *testing.T) {
	wide := impl.Plan{Kind: 6, Kids: slices.Repeat([]impl.Plan{tableOf(0)}, 100000)}
	bushy, other := tableOf(0), tableOf(0)
	for range 100 {
		bushy, other = bothOf(bushy, bushy), bothOf(other, other)
	}
	long := nested(200000, tableOf(0))
	around := round(onceOf(tableOf(0)), 0)
	for name, p := range map[string]impl.Plan{
		"wide": wide, "bushy": bushy, "long": long, "round": around, "round in 3": round(onceOf(tableOf(0)), 3),
		"round twice": round(bothOf(tableOf(0), tableOf(0)), 1), "round, no kind": round(impl.Plan{Kids: make([]impl.Plan, 2)}, 0),
	} {
		if impl.PlanMany(p) != 0 || impl.PlanUses(p, 0) || impl.PlanText(p) != "" || impl.PlanWide(p, []int{1}) != -1 || !impl.PlanSame(p, p) {
			t.Error(name)
		}
		if impl.PlanSame(p, tableOf(0)) || impl.PlanSame(onceOf(tableOf(0)), p) {
			t.Error(name, "is another plan")
		}
	}
	if !impl.PlanSame(bushy, other) || impl.PlanSame(bushy, bothOf(bushy, other)) || impl.PlanSame(long, onceOf(long)) {
		t.Error("plans of many parts")
	}
	if !impl.PlanSame(around, round(onceOf(tableOf(0)), 2)) || impl.PlanSame(around, long) {
		t.Error("plans that go round")
	}
}

// wordForm is how the words of a head look that have a form of their own.
var (
	tableForm = regexp.MustCompile(`^t[0-2]$`)
	placeForm = regexp.MustCompile(`^[0-5]$`)
	keysForm  = regexp.MustCompile(`^(-|[0-5](,[0-5]){0,4})$`)
)

// planByForm reads a plan apart from the program.
func planByForm(text string) (impl.Plan, bool) {
	words := strings.Split(text, " ")
	p, left, ok := wordsByForm(words)
	if !ok || left != 0 || !writableByForm(p) {
		return impl.Plan{}, false
	}
	return p, true
}

// wordsByForm takes the words of one plan, and says how many are left.
func wordsByForm(words []string) (p impl.Plan, left int, ok bool) {
	size, kids := map[string]int{"where": 2, "map": 2, "join": 3, "both": 1, "once": 1, "group": 4}[words[0]], 1
	switch {
	case tableForm.MatchString(words[0]):
		return tableOf(int(words[0][1] - '0')), len(words) - 1, true
	case size == 0 || len(words) < size:
		return impl.Plan{}, 0, false
	case words[0] == "join" || words[0] == "both":
		kids = 2
	}
	p, ok = headByForm(words[:size])
	left = len(words) - size
	for range kids {
		if !ok || left == 0 {
			return impl.Plan{}, 0, false
		}
		var kid impl.Plan
		kid, left, ok = wordsByForm(words[len(words)-left:])
		p.Kids = append(p.Kids, kid)
	}
	return p, left, ok
}

func headByForm(head []string) (p impl.Plan, ok bool) {
	place := func(word string) int {
		ok = ok && placeForm.MatchString(word)
		n, _ := strconv.Atoi(word)
		return n
	}
	ok = true
	switch head[0] {
	case "where":
		p.Kind = 2
		p.Test, ok = testByForm(head[1])
	case "map":
		p.Kind = 3
		for _, word := range strings.Split(head[1], ",") {
			c, is := cellByForm(word)
			p.Cells, ok = append(p.Cells, c), ok && is
		}
	case "join":
		p.Kind, p.A, p.B = 4, place(head[1]), place(head[2])
	case "both":
		p.Kind = 5
	case "once":
		p.Kind = 6
	case "group":
		p.Kind, p.Col = 7, place(head[3])
		p.Agg = slices.Index([]string{"count", "sum", "least", "most"}, head[2])
		ok = ok && keysForm.MatchString(head[1])
		if ok && head[1] != "-" {
			for _, word := range strings.Split(head[1], ",") {
				p.Keys = append(p.Keys, place(word))
			}
		}
	}
	return p, ok
}

func wantPlanRead(t *testing.T, text string) {
	t.Helper()
	want, wantOk := planByForm(text)
	got, ok := impl.PlanRead(text)
	if ok != wantOk || planShown(got) != planShown(want) {
		t.Fatalf("PlanRead(%q) = %v, %v; want %v, %v", text, got, ok, want, wantOk)
	}
	if ok && impl.PlanText(got) != text {
		t.Fatalf("%q is written %q", text, impl.PlanText(got))
	}
}

// TestPlanReadEveryFewWords holds the program against the forms at all texts of up to 5 of some words.
func TestPlanReadEveryFewWords(t *testing.T) {
	words := []string{"t0", "where", "c0<#1", "map", "c0,c5", "join", "0", "both", "once", "group", "-", "sum", ""}
	texts := slices.Clone(words)
	for first := 0; first < len(texts); first++ {
		wantPlanRead(t, texts[first])
		if strings.Count(texts[first], " ") == 4 {
			continue
		}
		for _, word := range words {
			texts = append(texts, texts[first]+" "+word)
		}
	}
}

// TestPlanReadOneByteOff changes, adds and takes away every byte of good texts.
func TestPlanReadOneByteOff(t *testing.T) {
	for good := range plainPlans() {
		wantPlanRead(t, good)
		for at := range len(good) + 1 {
			for b := range 256 {
				wantPlanRead(t, good[:at]+string([]byte{byte(b)})+good[at:])
				if at < len(good) {
					wantPlanRead(t, good[:at]+string([]byte{byte(b)})+good[at+1:])
				}
			}
			if at < len(good) {
				wantPlanRead(t, good[:at]+good[at+1:])
				wantPlanRead(t, good[:at])
				wantPlanRead(t, good[at:])
			}
		}
	}
}

func TestPlanReadWrong(t *testing.T) {
	for _, text := range []string{
		"", " ", "  ", "t", "t3", "t-1", "t00", "t01", "t+1", "t-0", "t1 ", " t1", "t 1", "T0", "0", "t0t1", "t0,t1", "t0 t0", "t0 ", "tt0", "t18446744073709551616", "t4294967296", "t\u0660", "\uff541",
		"where", "where t0", "where c0 t0", "where c0<c1", "where c0<c1 ", "where c0<c6 t0", "where c0 < c1 t0", "where c0<#01 t0", "where !!c0<c1 t0", "where c0<c1 t0 t0", "where  t0", "where  c0<c1 t0", "where c0<c1  t0", "where c0<#1000000001 t0", "where ! c0<c1 t0",
		"map", "map t0", "map  t0", "map , t0", "map c0, t0", "map ,c0 t0", "map c0,,c1 t0", "map c0 ,c1 t0", "map c0, c1 t0", "map c0 c1 t0", "map c6 t0", "map c00 t0", "map - t0", "map c0", "map c0,c0,c0,c0,c0,c0,c0 t0", "map c0<c1 t0", "map c0 t0 t1", "map #-0 t0",
		"join", "join 0 0", "join 0 0 t0", "join 0 t0 t1", "join t0 t1", "join 0 0 t0 t1 t2", "join 6 0 t0 t1", "join 0 6 t0 t1", "join -1 0 t0 t1", "join 0 -1 t0 t1", "join 00 0 t0 t1", "join 0 01 t0 t1", "join 0,0 t0 t1", "join 0  0 t0 t1", "join 0 0  t0 t1", "join 0 0 t0  t1", "join 0 0 t0 t1 ", "join  0 0 t0 t1", "join c0 c0 t0 t1", "join 0 - t0 t1", "join +0 0 t0 t1",
		"both", "both t0", "both t0 ", "both  t0 t1", "both t0 t1 t2", "both 0 t0 t1", "both t0 t3",
		"once", "once ", "once once", "once t0 t1", "once  t0", " once t0", "Once t0", "oncet0", "once 0 t0", "once\tt0", "once\nt0", "once t0\n", "once once once once once once t0",
		"group", "group 0 count 0", "group 0 count t0", "group count 0 t0", "group  count 0 t0", "group 0 0 t0", "group 0 fly 0 t0", "group 0 Count 0 t0", "group 0 coun 0 t0", "group 0  0 t0", "group 0 1 0 t0", "group 0,0 count 0 t0", "group 6 count 0 t0", "group -1 count 0 t0", "group 0 count 6 t0", "group 0 count -1 t0", "group 0 count - t0", "group 0, count 0 t0", "group ,0 count 0 t0", "group 0,,1 count 0 t0", "group , count 0 t0", "group -- count 0 t0", "group -, count 0 t0", "group 0,- count 0 t0", "group 00 count 0 t0", "group 0,01 count 0 t0", "group 0 count 00 t0", "group -0 count 0 t0", "group 0,1,2,3,4,5 count 0 t0", "group 0, 1 count 0 t0", "group 0 count 0 t0 t1", "group c0 count 0 t0",
		"limit t0", "union t0 t1", "plan", "# t0", "\xff", "t0\xff", "t\xff", "\xfft0", "once \xff", "once\xff t0", "where c0<\xff t0", "map \xff t0", "map c0\xff t0", "join \xff 0 t0 t1", "group \xff count 0 t0", "group 0 \xff 0 t0", "group 0 count \xff t0", "both t0\xed\xa0\x80t1", "once\u00a0t0", "\ufefft0", "t0\x00",
	} {
		if got, ok := impl.PlanRead(text); ok || planShown(got) != planShown(impl.Plan{}) {
			t.Errorf("%q is %v, %v", text, got, ok)
		}
		wantPlanRead(t, text)
	}
}

// longestPlan has as many bytes in its text as any plan that can be written.
func longestPlan() impl.Plan {
	cells := slices.Repeat([]impl.Cell{num(-1000000000)}, 6)
	chain := func(maps int) impl.Plan {
		p := tableOf(2)
		for range maps {
			p = mapOf(p, cells...)
		}
		return p
	}
	return joinOf(5, 5, chain(4), chain(3))
}

func TestPlanLongTexts(t *testing.T) {
	p := longestPlan()
	wantPlan(t, p)
	text := impl.PlanText(p)
	if impl.PlanMany(p) != 10 || len(text) < 500 || len(text) > 1200 {
		t.Error(len(text), text)
	}
	for _, size := range []int{1199, 1200, 1201, 1202, 100000} {
		for name, long := range map[string]string{
			"spaces behind": text + strings.Repeat(" ", size), "spaces ahead": strings.Repeat(" ", size) + text, "once": strings.Repeat("once ", size),
			"both": strings.Repeat("both ", size) + "t0", "zeros": "t" + strings.Repeat("0", size), "keys": "group " + strings.Repeat("0,", size) + "0 count 0 t0",
			"cells": "map " + strings.Repeat("c0,", size) + "c0 t0", "no rune": strings.Repeat("\xff", size), "number": "join " + strings.Repeat("9", size) + " 0 t0 t1", "plans": strings.Repeat(text+" ", size/len(text)+1),
		} {
			for _, cut := range []string{long, long[:size], long[len(long)-size:]} {
				if got, ok := impl.PlanRead(cut); ok || planShown(got) != planShown(impl.Plan{}) {
					t.Errorf("%s of %d bytes is %v, %v", name, len(cut), got, ok)
				}
			}
		}
	}
}

// roomyPlan is a plan with room behind each list, filled with what no call may touch.
func roomyPlan(p impl.Plan) impl.Plan {
	p.Cells = append(slices.Clone(p.Cells), col(71), col(72))[:len(p.Cells)]
	p.Keys = append(slices.Clone(p.Keys), 73, 74)[:len(p.Keys)]
	var kids []impl.Plan
	for _, kid := range p.Kids {
		kids = append(kids, roomyPlan(kid))
	}
	p.Kids = append(kids, tableOf(75), tableOf(76))[:len(p.Kids)]
	return p
}

// roomShown is all that a plan has, with what is behind the end of each list.
func roomShown(p impl.Plan) string {
	text := fmt.Sprint(p, p.Cells[:cap(p.Cells)], p.Keys[:cap(p.Keys)], p.Kids[:cap(p.Kids)])
	for _, kid := range p.Kids {
		text += roomShown(kid)
	}
	return text
}

// spoilPlan writes into all that a plan can reach, spare room included.
func spoilPlan(p impl.Plan) {
	spoilRow(p.Keys)
	for i := range p.Cells[:cap(p.Cells)] {
		p.Cells[:cap(p.Cells)][i] = num(-99)
	}
	for i, kid := range p.Kids[:cap(p.Kids)] {
		spoilPlan(kid)
		p.Kids[:cap(p.Kids)][i] = tableOf(-99)
	}
}

func TestPlansAreNotChanged(t *testing.T) {
	list := []impl.Plan{{}, longestPlan(), nested(6, tableOf(0)), groupOf([]int{3, 1, 3}, 9, 9, mapOf(tableOf(9))), bothOf(tableOf(0), impl.Plan{})}
	for _, p := range plainPlans() {
		list = append(list, p)
	}
	for _, plain := range list {
		p, other := roomyPlan(plain), roomyPlan(plain)
		wides := []int{2, 3, 4, 5}
		was, wasOther := roomShown(p), roomShown(other)
		impl.PlanWide(p, wides[:2])
		impl.PlanSame(p, other)
		impl.PlanMany(p)
		impl.PlanUses(p, 1)
		impl.PlanText(p)
		if roomShown(p) != was || roomShown(other) != wasOther || !slices.Equal(wides, []int{2, 3, 4, 5}) {
			t.Errorf("%v was changed", plain)
		}
	}
}

// TestPlansThatAreReadAreNewMemory spoils one plan that was read, and looks at another one that was read from the same text.
func TestPlansThatAreReadAreNewMemory(t *testing.T) {
	for text, p := range plainPlans() {
		first, second := planRead(t, text), planRead(t, text)
		spoilPlan(first)
		if planShown(second) != planShown(p) || planShown(planRead(t, text)) != planShown(p) {
			t.Errorf("%q is %v", text, second)
		}
	}
}

// TestPlanPartsAreApart spoils each part of a plan that was read, and looks at the others.
func TestPlanPartsAreApart(t *testing.T) {
	text := "both map c0,c1 group 1,2 sum 0 t0 map c0,c1 group 1,2 sum 0 t0"
	for at := range 2 {
		p := planRead(t, text)
		was := planShown(p.Kids[1-at])
		spoilPlan(p.Kids[at])
		if planShown(p.Kids[1-at]) != was {
			t.Errorf("kid %d shares memory: %v", at, p)
		}
	}
	p := planRead(t, text)
	spoilRow(p.Kids[0].Kids[0].Keys)
	p.Kids[0].Kids[0].Keys = []int{1, 2}
	if got := impl.PlanText(p); got != text {
		t.Error(got)
	}
}
