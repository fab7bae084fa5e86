package tests

import (
	"fmt"
	"math"
	"math/rand"
	"slices"
	"strings"
	"testing"

	"loop.example/milldam/impl"
)

// runsOf is a spine of these lists.
func runsOf(runs ...[]impl.Item) impl.Spine {
	return impl.Spine{Runs: runs}
}

// runsRead is a spine of runs that are told with a bar between; no runs of the empty text.
func runsRead(t *testing.T, text string) impl.Spine {
	t.Helper()
	var s impl.Spine
	if text == "" {
		return s
	}
	for _, run := range strings.Split(text, " | ") {
		s.Runs = append(s.Runs, read(t, run))
	}
	return s
}

// runsText tells runs, those that are not ok, too.
func runsText(s impl.Spine) string {
	var texts []string
	for _, run := range s.Runs {
		texts = append(texts, impl.ZText(run))
	}
	return strings.Join(texts, " | ")
}

func copiedRuns(s impl.Spine) impl.Spine {
	var c impl.Spine
	for _, run := range s.Runs {
		c.Runs = append(c.Runs, copied(run))
	}
	return c
}

// behind is a spine with one more run.
func behind(s impl.Spine, z []impl.Item) impl.Spine {
	c := copiedRuns(s)
	return impl.Spine{Runs: append(c.Runs, copied(z))}
}

// sameRuns says, apart from the program, whether two spines are one.
func sameRuns(a impl.Spine, b impl.Spine) bool {
	return slices.EqualFunc(a.Runs, b.Runs, sameItems)
}

// areRunsByForm, allByForm, lastTwoByForm, putByForm and mergeByForm are what is told, said apart from the program.
func areRunsByForm(s impl.Spine) bool {
	for i, run := range s.Runs {
		if _, ok := addByForm(s.Runs[:i+1]...); !ok || len(run) == 0 || i >= 5 {
			return false
		}
	}
	return true
}

func allByForm(s impl.Spine) []impl.Item {
	if !areRunsByForm(s) {
		return nil
	}
	all, _ := addByForm(s.Runs...)
	return all
}

func lastTwoByForm(s impl.Spine) impl.Spine {
	c := copiedRuns(s)
	ahead, lastTwo := c.Runs[:len(c.Runs)-2], c.Runs[len(c.Runs)-2:]
	both, _ := sumByForm(slices.Concat(lastTwo...))
	if len(both) == 0 {
		return impl.Spine{Runs: ahead}
	}
	return impl.Spine{Runs: append(slices.Clone(ahead), both)}
}

func putByForm(s impl.Spine, z []impl.Item) (impl.Spine, bool) {
	if !areRunsByForm(s) || !okByForm(z) {
		return impl.Spine{}, false
	}
	if len(z) == 0 {
		return s, true
	}
	put := behind(s, z)
	if _, ok := addByForm(put.Runs...); !ok {
		return s, false
	}
	for len(put.Runs) > 5 || len(put.Runs) > 1 && !areRunsByForm(put) {
		put = lastTwoByForm(put)
	}
	for _, run := range put.Runs {
		if !okByForm(run) {
			return s, false
		}
	}
	return put, true
}

func mergeByForm(s impl.Spine, fuel int) (impl.Spine, int) {
	if !areRunsByForm(s) || fuel < 0 {
		return impl.Spine{}, 0
	}
	for len(s.Runs) > 1 {
		last := len(s.Runs) - 1
		wanted := len(s.Runs[last]) + len(s.Runs[last-1])
		merged := lastTwoByForm(s)
		if wanted > fuel || !areRunsByForm(merged) {
			break
		}
		s, fuel = merged, fuel-wanted
	}
	return s, fuel
}

// manyItems is how many items all runs have, each by itself.
func manyItems(s impl.Spine) int {
	return len(slices.Concat(s.Runs...))
}

func wantRuns(t *testing.T, what string, got impl.Spine, want impl.Spine) {
	t.Helper()
	if !sameRuns(got, want) {
		t.Fatalf("%s: %q; want %q", what, runsText(got), runsText(want))
	}
}

// wantPut asks for what is told of a put, and holds what the runs have together against ZAdd.
func wantPut(t *testing.T, s impl.Spine, z []impl.Item) (impl.Spine, bool) {
	t.Helper()
	what := fmt.Sprintf("%q with %q", runsText(s), impl.ZText(z))
	got, ok := impl.RunPut(s, z)
	want, wantOk := putByForm(s, z)
	wantRuns(t, what, got, want)
	if ok != wantOk {
		t.Fatalf("%s: %v; want %v", what, ok, wantOk)
	}
	if !impl.RunOk(s) || !impl.ZOk(z) {
		return got, ok
	}
	sum, fits := impl.ZAdd(impl.RunAll(s), z)
	if fits != ok || !impl.RunOk(got) {
		t.Fatalf("%s: %v, and ZAdd tells %v", what, ok, fits)
	}
	if !ok {
		sum = impl.RunAll(s)
	}
	if !sameItems(impl.RunAll(got), sum) {
		t.Fatalf("%s: together %q; want %q", what, impl.ZText(impl.RunAll(got)), impl.ZText(sum))
	}
	return got, ok
}

// wantMerged asks for what is told of a merging, and that the runs have together what they had.
func wantMerged(t *testing.T, s impl.Spine, fuel int) (impl.Spine, int) {
	t.Helper()
	what := fmt.Sprintf("%q with fuel %d", runsText(s), fuel)
	got, left := impl.RunMerge(s, fuel)
	want, wantLeft := mergeByForm(s, fuel)
	wantRuns(t, what, got, want)
	if left != wantLeft {
		t.Fatalf("%s: %d is left; want %d", what, left, wantLeft)
	}
	if fuel < 0 || !impl.RunOk(s) {
		return got, left
	}
	if !impl.RunOk(got) || !sameItems(impl.RunAll(got), impl.RunAll(s)) {
		t.Fatalf("%s: together %q; they had %q", what, impl.ZText(impl.RunAll(got)), impl.ZText(impl.RunAll(s)))
	}
	return got, left
}

// fewRuns is all spines of up to most runs, each one of these lists, those that are not ok among them.
func fewRuns(t *testing.T, most int, texts ...string) []impl.Spine {
	t.Helper()
	spines := []impl.Spine{{}}
	for first := 0; first < len(spines); first++ {
		if len(spines[first].Runs) == most {
			continue
		}
		for _, text := range texts {
			spines = append(spines, behind(spines[first], read(t, text)))
		}
	}
	return spines
}

// someRuns is a spine of up to six runs; it leans to those that are ok, as it takes away again what is there.
func someRuns(r *rand.Rand) impl.Spine {
	var s impl.Spine
	for range r.Intn(7) {
		var z []impl.Item
		for cell := range 4 {
			if r.Intn(2) == 0 {
				continue
			}
			row := []int{cell / 2, cell % 2}[:1+r.Intn(2)]
			z = append(z, impl.Item{Row: row, W: []int{-10000, -9999, -1, 1, 2, 9999, 10000}[r.Intn(7)]})
		}
		if all, ok := addByForm(s.Runs...); ok && len(all) > 0 && r.Intn(4) == 0 {
			z, _ = withoutByForm(nil, all)
		}
		slices.SortFunc(z, func(a, b impl.Item) int { return slices.Compare(a.Row, b.Row) })
		z = slices.CompactFunc(z, func(a, b impl.Item) bool { return slices.Equal(a.Row, b.Row) })
		next := behind(s, z)
		if areRunsByForm(next) || r.Intn(20) == 0 {
			s = next
		}
	}
	return s
}

// wrongRuns is spines that are not ok, each for one reason.
func wrongRuns(t *testing.T) map[string]impl.Spine {
	t.Helper()
	one := many(1, 1, 1)
	wrong := map[string]impl.Spine{
		"six runs":                    runsOf(one, one, one, one, one, one),
		"six that are nothing":        runsRead(t, "1*1 | 1*-1 | 1*1 | 1*-1 | 1*1 | 1*-1"),
		"a nil run":                   runsOf(nil),
		"an empty run":                runsOf([]impl.Item{}),
		"an empty first":              runsOf(nil, one),
		"an empty last":               runsOf(one, nil),
		"an empty in between":         runsOf(one, nil, one),
		"10001 together":              runsRead(t, "1*10000 | 1*1"),
		"-10001 together":             runsRead(t, "1*-10000 | 1*-1"),
		"101 rows together":           runsOf(many(0, 100, 1), many(100, 1, 1)),
		"the last is too much":        runsRead(t, "1*1 | 1*-1 | 1*9999 | 1*1 | 1*1"),
		"too much, taken away again":  runsRead(t, "1*10000 | 1*1 | 1*-1"),
		"-10001, and taken back":      runsRead(t, "1*-10000 | 2*1 | 1*-1 | 1*1"),
		"101 rows, taken away again":  runsOf(many(0, 100, 1), many(100, 1, 1), many(100, 1, -1)),
		"first two too much, of five": runsRead(t, "1*10000 | 1*1 | 1*-1 | 1*-1 | 1*-1"),
	}
	for name, z := range wrongItems() {
		wrong["alone "+name] = runsOf(z)
		wrong["first "+name] = runsOf(z, one)
		wrong["last "+name] = runsOf(one, z)
		wrong["in between "+name] = runsOf(one, z, one)
	}
	return wrong
}

func TestRunsThatAreOk(t *testing.T) {
	if impl.RunMost != 5 {
		t.Fatal(impl.RunMost)
	}
	hundred := many(0, 100, 1)
	for name, s := range map[string]impl.Spine{
		"no runs":                    {},
		"an empty list of runs":      {Runs: [][]impl.Item{}},
		"one run":                    runsRead(t, "1*1"),
		"one run of 100":             runsOf(hundred),
		"one run of 10000":           runsOf(many(0, 100, -10000)),
		"five runs":                  runsRead(t, "1*1 | 1*1 | 1*1 | 1*1 | 1*1"),
		"five that are nothing":      runsRead(t, "1*1 | 1*-1 | 1*1 | 1*1 | 1*-2"),
		"nothing together":           runsRead(t, "1*1 2*-3 | 1*-1 2*3"),
		"just 10000 together":        runsRead(t, "1*9999 | 1*1"),
		"just -10000 together":       runsRead(t, "1*-9999 | 2*1 | 1*-1"),
		"just 100 rows together":     runsOf(many(0, 99, 1), many(99, 1, 1)),
		"two of 100 rows":            runsOf(hundred, hundred),
		"last two are 20000":         runsRead(t, "1*-10000 | 1*10000 | 1*10000"),
		"last two are -20000":        runsRead(t, "1*10000 | 1*-10000 | 1*-10000"),
		"last two are 120 rows":      runsOf(hundred, many(0, 60, -1), many(200, 60, 1)),
		"rows that are not in order": runsRead(t, "3*1 | 1*1 | 2*1 | 1,0*1"),
		"rows of several widths":     runsRead(t, "1*1 1,1*1 | 1,1,1*1 | 0,0,0,0,0,0*1"),
	} {
		if !impl.RunOk(s) {
			t.Error(name, "is not ok")
		}
	}
	for name, s := range wrongRuns(t) {
		if impl.RunOk(s) {
			t.Error(name, "is ok")
		}
	}
}

// TestRunsByTheirFirstParts has runs that are ok in one order and not in the other: all of them are the same together.
func TestRunsByTheirFirstParts(t *testing.T) {
	for _, c := range []struct {
		text string
		want bool
	}{
		{"1*10000 | 1*-1 | 1*1", true}, {"1*10000 | 1*1 | 1*-1", false}, {"1*1 | 1*10000 | 1*-1", false}, {"1*-1 | 1*10000 | 1*1", true}, {"1*-1 | 1*1 | 1*10000", true},
		{"1*-10000 | 1*1 | 1*-1", true}, {"1*-10000 | 1*-1 | 1*1", false},
		{"1*5000 | 1*5000 | 1*-1 | 1*1", true}, {"1*5000 | 1*5000 | 1*1 | 1*-1", false}, {"1*5000 | 1*5001 | 1*-2 | 1*1", false},
		{"1*10000 | 1*-10000 | 1*10000 | 1*-10000 | 1*10000", true}, {"1*10000 | 1*-10000 | 1*10000 | 1*10000 | 1*-10000", false},
		{"1*1 | 1*-1 | 1*10000", true}, {"1*1 | 1*-1 | 1*10000 | 1*1", false},
	} {
		s := runsRead(t, c.text)
		if got := impl.RunOk(s); got != c.want {
			t.Errorf("%s is %v", c.text, got)
		}
		if got := impl.RunAll(s); !c.want && len(got) > 0 {
			t.Errorf("%s has together %v", c.text, got)
		}
	}
}

func TestRunsSame(t *testing.T) {
	spines := []impl.Spine{{}, runsOf(nil), runsOf(nil, nil), runsRead(t, "1*1"), runsRead(t, "1*2"), runsRead(t, "2*1"), runsRead(t, "1,1*1"), runsRead(t, "1*1 | 2*1"), runsRead(t, "2*1 | 1*1"), runsRead(t, "1*1 2*1"), runsRead(t, "1*1 | 1*1"), runsRead(t, "1*1 | 1*-1"), runsOf(many(1, 1, 1), nil), runsOf(nil, many(1, 1, 1)), runsOf(many(1, 1, 0)), runsOf(many(0, 101, 1)), runsRead(t, "1*1 | 1*1 | 1*1 | 1*1 | 1*1"), runsRead(t, "1*1 | 1*1 | 1*1 | 1*1 | 1*1 | 1*1")}
	for i, a := range spines {
		for j, b := range spines {
			if got := impl.RunSame(a, copiedRuns(b)); got != (i == j) {
				t.Errorf("%q and %q: %v", runsText(a), runsText(b), got)
			}
		}
	}
	if !impl.RunSame(impl.Spine{}, impl.Spine{Runs: [][]impl.Item{}}) || !impl.RunSame(runsOf(nil), runsOf([]impl.Item{})) {
		t.Error("the empty list and the nil list are the same")
	}
}

func TestRunsTogether(t *testing.T) {
	for _, c := range []struct{ runs, want string }{
		{"", ""}, {"1*1", "1*1"}, {"1*1 2*1 | 2*-1 3*1 | 4*2", "1*1 3*1 4*2"}, {"3*1 | 1*1 | 2*1", "1*1 2*1 3*1"},
		{"1*1 | 1*-1", ""}, {"1*1 | 1*-1 | 1*1", "1*1"}, {"1*1 | 2*1 | 1*-1 2*-1", ""}, {"1*-5 | 1*3", "1*-2"},
		{"1*9999 | 1*1", "1*10000"}, {"1*10000 | 1*-10000 | 1*10000", "1*10000"}, {"1*1 | 1,0*1 | 0,7*2 | 1*1 | 2*-1", "0,7*2 1*2 1,0*1 2*-1"},
	} {
		if got := impl.RunAll(runsRead(t, c.runs)); !sameItems(got, read(t, c.want)) {
			t.Errorf("%q have together %q; want %q", c.runs, impl.ZText(got), c.want)
		}
	}
	if got := impl.RunAll(runsOf(many(0, 50, 1), many(50, 50, 2))); !sameItems(got, append(many(0, 50, 1), many(50, 50, 2)...)) {
		t.Error("100 rows", got)
	}
	for name, s := range wrongRuns(t) {
		if got := impl.RunAll(s); len(got) > 0 {
			t.Error(name, got)
		}
	}
}

func TestRunsLookedUp(t *testing.T) {
	s := runsRead(t, "1*1 2*1 5,5*3 | 2*-1 3*1 | 1*-4 4*2 5,5*1 | 0*7 5*2")
	for _, c := range []struct {
		row  string
		want int
	}{{"0", 7}, {"1", -3}, {"2", 0}, {"3", 1}, {"4", 2}, {"5", 2}, {"5,5", 4}, {"6", 0}, {"-1", 0}, {"5,4", 0}, {"5,6", 0}, {"5,5,5", 0}, {"1,0", 0}} {
		row, _ := rowByForm(c.row)
		if got := impl.RunGet(s, row); got != c.want {
			t.Errorf("%s is there %d times; want %d", c.row, got, c.want)
		}
	}
	for name, row := range map[string][]int{"nil": nil, "no cells": {}, "7 cells": {1, 2, 3, 4, 5, 6, 7}, "a great cell": {1000000001}, "a small one": {math.MinInt}, "a great last one": {5, math.MaxInt}} {
		for _, s := range []impl.Spine{s, {}, runsRead(t, "1*1"), runsRead(t, "1,2,3,4,5,6*1 | 1000000000*1")} {
			if got := impl.RunGet(s, row); got != 0 {
				t.Errorf("%s is there %d times", name, got)
			}
		}
	}
	if got := impl.RunGet(impl.Spine{}, []int{1}); got != 0 {
		t.Error("no runs", got)
	}
	for name, s := range wrongRuns(t) {
		for _, row := range [][]int{{1}, {0}, {2}, {1, 2}, nil, {1, 2, 3, 4, 5, 6, 7}, {1000000001}} {
			if got := impl.RunGet(s, row); got != 0 {
				t.Errorf("%s: %v is there %d times", name, row, got)
			}
		}
	}
}

// TestRunsLookedUpAnywhere looks for each place of long runs, and for what would stand in between.
func TestRunsLookedUpAnywhere(t *testing.T) {
	var even, third []impl.Item
	for i := range 50 {
		even = append(even, impl.Item{Row: []int{2 * i}, W: i + 1})
		third = append(third, impl.Item{Row: []int{3 * i}, W: -i - 1})
	}
	for _, s := range []impl.Spine{runsOf(even), runsOf(even, third), runsOf(third, even, even, third), runsOf(even, many(0, 3, 1), third)} {
		all := allByForm(s)
		if len(all) == 0 {
			t.Fatal(s)
		}
		for cell := -2; cell < 152; cell++ {
			want := impl.ZGet(all, []int{cell})
			if got := impl.RunGet(s, []int{cell}); got != want || got != impl.ZGet(impl.RunAll(s), []int{cell}) {
				t.Errorf("%d is there %d times; want %d", cell, got, want)
			}
			if got := impl.RunGet(s, []int{cell, 0}); got != 0 {
				t.Errorf("%d,0 is there %d times", cell, got)
			}
		}
	}
}

func TestRunsPut(t *testing.T) {
	for _, c := range []struct{ runs, z, want string }{
		{"", "1*1", "1*1"},
		{"1*1", "2*1", "1*1 | 2*1"},
		{"2*1", "1*1", "2*1 | 1*1"},
		{"1*1", "1*1", "1*1 | 1*1"},
		{"1*1", "1*-1", "1*1 | 1*-1"},
		{"1*1 | 2*1 | 3*1 | 4*1", "5*1", "1*1 | 2*1 | 3*1 | 4*1 | 5*1"},
		{"1*1 | 2*1 | 3*1 | 4*1 | 5*1", "6*1", "1*1 | 2*1 | 3*1 | 4*1 | 5*1 6*1"},
		{"1*1 | 2*1 | 3*1 | 4*1 | 5*1 6*1", "0*1 6*-1", "1*1 | 2*1 | 3*1 | 4*1 | 0*1 5*1"},
		{"1*1 | 2*1 | 3*1 | 4*1 | 5*1", "1*-1", "1*1 | 2*1 | 3*1 | 4*1 | 1*-1 5*1"},
		{"1*1 | 2*1 | 3*1 | 4*1 | 5*1 6*2", "5*-1 6*-2", "1*1 | 2*1 | 3*1 | 4*1"},
		{"1*1 | 1*-1 | 1*1 | 1*-1 | 1*1", "1*-1", "1*1 | 1*-1 | 1*1 | 1*-1"},
		{"1*9999", "1*1", "1*9999 | 1*1"},
		{"1*-10000 | 1*10000", "1*10000", "1*-10000 | 1*10000 | 1*10000"},
	} {
		s, z := runsRead(t, c.runs), read(t, c.z)
		got, ok := wantPut(t, s, z)
		wantRuns(t, fmt.Sprint(c), got, runsRead(t, c.want))
		if !ok {
			t.Error(c, "is told to be too much")
		}
	}
}

// TestRunsPutNothing puts no items: the runs are as they are, however many there are.
func TestRunsPutNothing(t *testing.T) {
	for _, text := range []string{"", "1*1", "1*1 | 1*-1", "1*10000", "1*1 | 2*1 | 3*1 | 4*1 | 5*1", "1*-10000 | 1*10000 | 1*10000"} {
		for _, none := range [][]impl.Item{nil, {}} {
			got, ok := wantPut(t, runsRead(t, text), none)
			wantRuns(t, text, got, runsRead(t, text))
			if !ok {
				t.Error(text, "with nothing is told to be too much")
			}
		}
	}
}

// TestRunsPutTooMuch meets each bound of what is together, and goes past it: the runs are then as they were.
func TestRunsPutTooMuch(t *testing.T) {
	five := runsRead(t, "1*9990 | 1*2 | 1*2 | 1*2 | 1*2")
	rows := runsOf(many(0, 96, 1), many(96, 1, 1), many(97, 1, 1), many(98, 1, 1), many(99, 1, 1))
	for name, c := range map[string]struct {
		s    impl.Spine
		z    []impl.Item
		want bool
	}{
		"just 10000":              {runsRead(t, "1*9000"), many(1, 1, 1000), true},
		"10001":                   {runsRead(t, "1*9000"), many(1, 1, 1001), false},
		"just -10000":             {runsRead(t, "1*-9000"), many(1, 1, -1000), true},
		"-10001":                  {runsRead(t, "1*-9000"), many(1, 1, -1001), false},
		"just 100 rows":           {runsOf(many(0, 60, 1)), many(60, 40, 1), true},
		"101 rows":                {runsOf(many(0, 60, 1)), many(60, 41, 1), false},
		"100 rows of 101":         {runsOf(many(0, 60, 1)), append(many(59, 1, -1), many(60, 41, 1)...), true},
		"just 10000 by the sixth": {five, many(1, 1, 2), true},
		"10001 by the sixth":      {five, many(1, 1, 3), false},
		"just 100 by the sixth":   {rows, many(50, 1, 1), true},
		"101 by the sixth":        {rows, many(100, 1, 1), false},
		"as much as there can be": {runsOf(many(0, 100, 10000)), many(0, 100, -10000), true},
		"twice that":              {runsOf(many(0, 100, 10000)), many(0, 100, 10000), false},
		"behind nothing, 10000":   {runsRead(t, "1*10000 | 1*-10000"), many(1, 1, 10000), true},
	} {
		got, ok := wantPut(t, c.s, c.z)
		if ok != c.want {
			t.Errorf("%s: %v", name, ok)
		}
		if !c.want {
			wantRuns(t, name, got, c.s)
		}
	}
}

// TestRunsPutMergedFurther has last two that are too much as one run: they are merged on, until all are ok.
func TestRunsPutMergedFurther(t *testing.T) {
	for _, c := range []struct{ runs, z, want string }{
		{"2*1 | 3*1 | 4*1 | 1*-10000 | 1*10000", "1*10000", "2*1 | 3*1 | 4*1 | 1*10000"},
		{"2*1 | 3*1 | 1*-10000 | 4*1 | 1*10000", "1*10000", "2*1 | 3*1 | 1*10000 4*1"},
		{"1*-10000 | 2*1 | 3*1 | 4*1 | 1*10000", "1*10000", "1*10000 2*1 3*1 4*1"},
		{"2*1 | 1*-10000 | 3*1 | 4*1 | 1*10000", "1*1", "2*1 | 1*1 3*1 4*1"},
		{"2*1 | 3*1 | 4*1 | 1*10000 | 1*-10000", "1*-10000", "2*1 | 3*1 | 4*1 | 1*-10000"},
		{"2*1 | 3*1 | 4*1 | 1*-20 | 1*10000", "1*19", "2*1 | 3*1 | 4*1 | 1*9999"},
		{"2*1 | 3*1 | 4*1 | 1*-19 | 1*9990", "1*10", "2*1 | 3*1 | 4*1 | 1*-19 | 1*10000"},
		{"1*-9999 | 1*-1 | 3*1 | 4*1 | 1*9999", "1*2", "1*-9999 | 1*10000 3*1 4*1"},
		{"1*-9999 2*1 | 2*-1 | 3*1 | 3*-1 | 1*9999", "1*2", "1*2"},
		{"1*-1 | 2*1 | 2*-1 | 3*1 | 1*10000 3*-1", "1*1", "1*10000"},
	} {
		s, z := runsRead(t, c.runs), read(t, c.z)
		got, ok := wantPut(t, s, z)
		wantRuns(t, fmt.Sprint(c), got, runsRead(t, c.want))
		if !ok {
			t.Error(c, "is told to be too much")
		}
	}
}

// TestRunsPutOfManyRows has last two that are just ZRows rows as one run, and one more.
func TestRunsPutOfManyRows(t *testing.T) {
	s := runsOf(many(0, 70, 1), many(70, 1, 1), many(70, 1, -1), many(0, 70, -1), many(100, 60, 1))
	for _, c := range []struct {
		z    []impl.Item
		many []int
	}{
		{many(200, 40, 1), []int{70, 1, 1, 70, 100}},
		{many(130, 70, 1), []int{70, 1, 1, 70, 100}},
		{many(100, 60, -1), []int{70, 1, 1, 70}},
	} {
		got, ok := wantPut(t, s, c.z)
		var sizes []int
		for _, run := range got.Runs {
			sizes = append(sizes, len(run))
		}
		if !ok || !slices.Equal(sizes, c.many) {
			t.Error(sizes, ok, c.many)
		}
	}
	// 101 rows are the last two as one, while 31 of them are taken away by a run ahead.
	s = runsOf(many(0, 1, 1), many(0, 1, -1), many(300, 1, 5), many(100, 31, -1), many(100, 60, 1))
	got, ok := wantPut(t, s, many(200, 41, 1))
	if !ok || len(got.Runs) != 4 || len(got.Runs[3]) != 70 {
		t.Error(runsText(got), ok)
	}
}

func TestRunsPutWrong(t *testing.T) {
	for name, z := range wrongItems() {
		for _, text := range []string{"", "1*1", "1*1 | 1*-1", "1*1 | 2*1 | 3*1 | 4*1 | 5*1"} {
			if got, ok := impl.RunPut(runsRead(t, text), z); ok || len(got.Runs) > 0 {
				t.Errorf("%s behind %q: %q, %v", name, text, runsText(got), ok)
			}
		}
	}
	for name, s := range wrongRuns(t) {
		for _, z := range [][]impl.Item{nil, {}, many(1, 1, 1), many(1, 1, -1), many(0, 101, 1)} {
			if got, ok := impl.RunPut(s, z); ok || len(got.Runs) > 0 {
				t.Errorf("%s with %q: %q, %v", name, impl.ZText(z), runsText(got), ok)
			}
		}
	}
}

func TestRunsMerged(t *testing.T) {
	for _, c := range []struct {
		runs string
		fuel int
		want string
		left int
	}{
		{"", 0, "", 0}, {"", 7, "", 7}, {"1*1", 0, "1*1", 0}, {"1*1", 9, "1*1", 9},
		{"1*1 | 2*1", 1, "1*1 | 2*1", 1}, {"1*1 | 2*1", 2, "1*1 2*1", 0}, {"1*1 | 2*1", 3, "1*1 2*1", 1}, {"1*1 | 2*1", 0, "1*1 | 2*1", 0},
		{"1*1 2*1 | 2*-1 3*1 | 4*2", 2, "1*1 2*1 | 2*-1 3*1 | 4*2", 2},
		{"1*1 2*1 | 2*-1 3*1 | 4*2", 3, "1*1 2*1 | 2*-1 3*1 4*2", 0},
		{"1*1 2*1 | 2*-1 3*1 | 4*2", 7, "1*1 2*1 | 2*-1 3*1 4*2", 4},
		{"1*1 2*1 | 2*-1 3*1 | 4*2", 8, "1*1 3*1 4*2", 0},
		{"1*1 2*1 | 2*-1 3*1 | 4*2", 100, "1*1 3*1 4*2", 92},
		{"1*1 | 1*1 | 1*1 | 1*1 | 1*1", 7, "1*1 | 1*4", 1},
		{"1*1 | 1*1 | 1*1 | 1*1 | 1*1", 8, "1*5", 0},
		{"1*1 2*1 3*1 | 4*1 | 5*1", 5, "1*1 2*1 3*1 | 4*1 5*1", 3},
		{"1*9999 | 1*1", 2, "1*10000", 0},
		{"1*1", math.MaxInt, "1*1", math.MaxInt}, {"1*1 | 2*1", math.MaxInt, "1*1 2*1", math.MaxInt - 2},
	} {
		got, left := wantMerged(t, runsRead(t, c.runs), c.fuel)
		wantRuns(t, fmt.Sprint(c), got, runsRead(t, c.want))
		if left != c.left {
			t.Errorf("%v: %d is left", c, left)
		}
	}
}

// TestRunsMergedToNothing has last two that are nothing together: both are gone, and what is ahead is merged on.
func TestRunsMergedToNothing(t *testing.T) {
	for _, c := range []struct {
		runs string
		fuel int
		want string
		left int
	}{
		{"1*1 | 1*-1", 1, "1*1 | 1*-1", 1},
		{"1*1 | 1*-1", 2, "", 0},
		{"1*1 | 1*-1", 9, "", 7},
		{"1*1 2*2 3*3 | 1*-1 2*-2 3*-3", 5, "1*1 2*2 3*3 | 1*-1 2*-2 3*-3", 5},
		{"1*1 2*2 3*3 | 1*-1 2*-2 3*-3", 6, "", 0},
		{"5*1 | 1*1 | 1*-1", 9, "5*1", 7},
		{"5*1 | 1*1 | 1*-1", 2, "5*1", 0},
		{"5*1 | 6*1 | 1*1 | 1*-1", 2, "5*1 | 6*1", 0},
		{"5*1 | 6*1 | 1*1 | 1*-1", 3, "5*1 | 6*1", 1},
		{"5*1 | 6*1 | 1*1 | 1*-1", 4, "5*1 6*1", 0},
		{"1*1 | 1*-1 | 2*1 | 2*-1", 4, "", 0},
		{"1*1 | 1*-1 | 2*1 | 2*-1", 3, "1*1 | 1*-1", 1},
		{"1*1 | 2*1 | 1*-1 2*-1", 5, "", 0},
		{"1*1 | 2*1 | 1*-1 2*-1", 4, "1*1 | 1*-1", 1},
	} {
		got, left := wantMerged(t, runsRead(t, c.runs), c.fuel)
		wantRuns(t, fmt.Sprint(c), got, runsRead(t, c.want))
		if left != c.left {
			t.Errorf("%v: %d is left", c, left)
		}
	}
}

// TestRunsMergedTooMuch has last two that are too much as one run: they stay, whatever fuel there is, and it is left.
func TestRunsMergedTooMuch(t *testing.T) {
	for name, s := range map[string]impl.Spine{
		"20000":        runsRead(t, "1*-10000 | 1*10000 | 1*10000"),
		"10001":        runsRead(t, "1*-1 | 1*10000 | 1*1"),
		"-10001":       runsRead(t, "1*1 | 2*5 | 1*-10000 | 1*-1"),
		"120 rows":     runsOf(many(0, 100, -1), many(0, 60, 1), many(200, 60, 1)),
		"101 rows":     runsOf(many(0, 1, -1), many(0, 60, 1), many(60, 41, 1)),
		"five of them": runsRead(t, "1*-10000 | 2*1 | 2*1 | 1*10000 | 1*10000"),
	} {
		if !areRunsByForm(s) {
			t.Fatal(name, "is not ok")
		}
		for _, fuel := range []int{0, 1, 2, 100, 101, 119, 120, 121, 1000, math.MaxInt} {
			got, left := wantMerged(t, s, fuel)
			wantRuns(t, name, got, s)
			if left != fuel {
				t.Errorf("%s: %d is left of %d", name, left, fuel)
			}
		}
	}
	// Just as much as there can be is merged.
	for name, c := range map[string]struct {
		s    impl.Spine
		left int
	}{
		"10000":    {runsRead(t, "1*-1 | 1*9999 | 1*1"), 1000 - 2 - 2},
		"-10000":   {runsRead(t, "1*1 | 1*-9999 | 1*-1"), 1000 - 2 - 2},
		"100 rows": {runsOf(many(0, 1, -1), many(0, 60, 1), many(60, 40, 1)), 1000 - 100 - 101},
	} {
		if got, left := wantMerged(t, c.s, 1000); len(got.Runs) != 1 || left != c.left {
			t.Error(name, runsText(got), left)
		}
	}
	// The first merging can be, the next can not: what it wants is not taken.
	got, left := wantMerged(t, runsRead(t, "1*-10000 | 1*10000 | 1*9999 | 1*1"), 50)
	wantRuns(t, "then 20000", got, runsRead(t, "1*-10000 | 1*10000 | 1*10000"))
	if left != 48 {
		t.Error(left)
	}
}

func TestRunsMergedWrong(t *testing.T) {
	for _, text := range []string{"", "1*1", "1*1 | 2*1", "1*1 | 1*-1"} {
		for _, fuel := range []int{-1, -2, -100, math.MinInt} {
			if got, left := impl.RunMerge(runsRead(t, text), fuel); len(got.Runs) > 0 || left != 0 {
				t.Errorf("%q with fuel %d: %q, %d", text, fuel, runsText(got), left)
			}
		}
	}
	for name, s := range wrongRuns(t) {
		for _, fuel := range []int{0, 1, 2, 1000, -1, math.MaxInt, math.MinInt} {
			if got, left := impl.RunMerge(s, fuel); len(got.Runs) > 0 || left != 0 {
				t.Errorf("%s with fuel %d: %q, %d", name, fuel, runsText(got), left)
			}
		}
	}
}

// TestRunsByForm holds all functions against what is said apart from the program, over all spines of a few short runs.
func TestRunsByForm(t *testing.T) {
	lists := []string{"1*1", "1*-1", "1*10000", "1*-10000", "1*-1 2*1"}
	for _, s := range fewRuns(t, 6, lists...) {
		ok := areRunsByForm(s)
		if got := impl.RunOk(s); got != ok {
			t.Fatalf("%q is %v", runsText(s), got)
		}
		if got := impl.RunAll(s); !sameItems(got, allByForm(s)) {
			t.Fatalf("%q have together %v", runsText(s), got)
		}
		if !ok {
			continue
		}
		for _, row := range [][]int{{0}, {1}, {1, 0}, {2}, {3}} {
			if got := impl.RunGet(s, row); got != impl.ZGet(allByForm(s), row) {
				t.Fatalf("%q have %v %d times", runsText(s), row, got)
			}
		}
		for _, z := range lists {
			wantPut(t, s, read(t, z))
		}
		for fuel := range 2*manyItems(s) + 2 {
			wantMerged(t, s, fuel)
		}
	}
}

// TestRunsOneBehindTheOther puts and merges as it comes: however, the runs have together what was put.
func TestRunsOneBehindTheOther(t *testing.T) {
	r := rand.New(rand.NewSource(7))
	for range 60 {
		var s impl.Spine
		var all []impl.Item
		for range 40 {
			z := slices.Concat(someRuns(r).Runs...)
			z, ok := sumByForm(z)
			if !ok {
				continue
			}
			if r.Intn(5) == 0 {
				z, _ = withoutByForm(nil, all)
			}
			sum, fits := addByForm(all, z)
			next, ok := wantPut(t, s, z)
			if ok != fits {
				t.Fatalf("%q with %q: %v", runsText(s), impl.ZText(z), ok)
			}
			if ok {
				all = sum
			}
			s = next
			if r.Intn(3) == 0 {
				s, _ = wantMerged(t, s, r.Intn(2*manyItems(s)+2))
			}
			if !sameItems(impl.RunAll(s), all) {
				t.Fatalf("%q have together %v; want %v", runsText(s), impl.RunAll(s), all)
			}
			for _, item := range append(copied(all), many(-1, 4, 0)...) {
				if got := impl.RunGet(s, item.Row); got != impl.ZGet(all, item.Row) {
					t.Fatalf("%q have %v %d times", runsText(s), item.Row, got)
				}
			}
		}
	}
}

func TestRunsOfManyKinds(t *testing.T) {
	r := rand.New(rand.NewSource(8))
	good := 0
	for range 4000 {
		s := someRuns(r)
		if impl.RunOk(s) != areRunsByForm(s) || !sameItems(impl.RunAll(s), allByForm(s)) {
			t.Fatalf("%q: %v, %v", runsText(s), impl.RunOk(s), impl.RunAll(s))
		}
		if areRunsByForm(s) {
			good++
		}
		other := someRuns(r)
		if impl.RunSame(s, other) != sameRuns(s, other) || !impl.RunSame(s, copiedRuns(s)) {
			t.Fatalf("%q and %q", runsText(s), runsText(other))
		}
		wantPut(t, s, slices.Concat(other.Runs...)[:min(1, manyItems(other))])
		wantMerged(t, s, r.Intn(30)-1)
		wantMerged(t, s, 1000)
	}
	if good < 1000 {
		t.Error(good)
	}
}

// roomyRuns is a spine with room behind all its lists, filled with what no call may touch.
func roomyRuns(s impl.Spine) impl.Spine {
	var runs [][]impl.Item
	for _, run := range s.Runs {
		runs = append(runs, roomy(run))
	}
	return impl.Spine{Runs: append(runs, roomy(many(81, 2, 83)), roomy(many(84, 1, 85)))[:len(runs)]}
}

// allRunsOf is a spine with what is behind the ends of its lists.
func allRunsOf(s impl.Spine) impl.Spine {
	var all impl.Spine
	for _, run := range s.Runs[:cap(s.Runs)] {
		all.Runs = append(all.Runs, allOf(run))
	}
	return all
}

// spoilRuns writes into all that a spine can reach, spare room included.
func spoilRuns(s impl.Spine) {
	for _, run := range s.Runs[:cap(s.Runs)] {
		spoil(run)
	}
	for i := range s.Runs[:cap(s.Runs)] {
		s.Runs[:cap(s.Runs)][i] = many(-99, 1, -99)
	}
}

// runCalls is each call that tells runs, by name.
func runCalls() map[string]func(s impl.Spine, z []impl.Item) impl.Spine {
	calls := map[string]func(s impl.Spine, z []impl.Item) impl.Spine{
		"RunPut": func(s impl.Spine, z []impl.Item) impl.Spine {
			put, _ := impl.RunPut(s, z)
			return put
		},
		"RunAll": func(s impl.Spine, z []impl.Item) impl.Spine { return runsOf(impl.RunAll(s)) },
		"the rest": func(s impl.Spine, z []impl.Item) impl.Spine {
			impl.RunOk(s)
			impl.RunSame(s, runsOf(z))
			impl.RunGet(s, append([]int{1}, 2, 3)[:1])
			return impl.Spine{}
		},
	}
	for _, fuel := range []int{0, 2, 5, 1000} {
		calls[fmt.Sprint("RunMerge ", fuel)] = func(s impl.Spine, z []impl.Item) impl.Spine {
			merged, _ := impl.RunMerge(s, fuel)
			return merged
		}
	}
	return calls
}

// runsToCall is spines of which each call tells something, and some that are not ok.
func runsToCall(t *testing.T) []impl.Spine {
	var spines []impl.Spine
	for _, text := range []string{"", "1*1", "1*1 1,2,3*2 3*1", "1*1 | 2*1", "1*1 | 1*-1", "1*1 | 2*1 | 3*1 | 4*1 | 5*1", "2*1 | 3*1 | 4*1 | 1*-10000 | 1*9999", "1*-10000 | 1*10000 | 1*10000", "5*1 | 6*1 | 1*1 | 1*-1", "1*10000 | 1*1"} {
		spines = append(spines, runsRead(t, text))
	}
	return append(spines, runsOf(nil), runsOf(many(0, 40, 1), many(20, 40, -1), many(50, 3, 2)))
}

func TestRunsAreNewMemory(t *testing.T) {
	for name, call := range runCalls() {
		for _, given := range runsToCall(t) {
			for _, items := range [][]impl.Item{nil, read(t, "1*1"), read(t, "1*-1 7*1"), read(t, "1*10000"), many(5, 2, 0)} {
				s, z := roomyRuns(given), roomy(items)
				wasS, wasZ := allRunsOf(s), allOf(z)
				got, again := call(s, z), call(s, z)
				want := copiedRuns(again)
				spoilRuns(got)
				if !sameRuns(allRunsOf(s), wasS) || !sameItems(allOf(z), wasZ) {
					t.Fatalf("%s of %q and %q changes them, or shares memory with them", name, runsText(given), impl.ZText(items))
				}
				if !sameRuns(again, want) {
					t.Fatalf("%s of %q and %q: two answers share memory", name, runsText(given), impl.ZText(items))
				}
				spoilRuns(s)
				spoil(z)
				if !sameRuns(again, want) {
					t.Fatalf("%s of %q and %q keeps memory of what it was given", name, runsText(given), impl.ZText(items))
				}
			}
		}
	}
}

// TestRunsOfSharedMemory gives runs that are one list in memory: each of an answer is by itself all the same.
func TestRunsOfSharedMemory(t *testing.T) {
	z := roomy(read(t, "1*1 2,2*1"))
	s := runsOf(z, z, z, z, z)
	was := allOf(z)
	for name, call := range runCalls() {
		got := call(s, z)
		wantRuns(t, name, got, call(copiedRuns(s), copied(z)))
		wantListsApart(t, name, got)
	}
	if !sameItems(allOf(z), was) {
		t.Error(z)
	}
}

// wantListsApart writes into one row, and into one run, of an answer, behind its end too, and looks at the others.
func wantListsApart(t *testing.T, what string, s impl.Spine) {
	t.Helper()
	for at := range s.Runs {
		for i := range s.Runs[at] {
			was := copiedRuns(s)
			spoilRow(s.Runs[at][i].Row)
			s.Runs[at][i].Row = slices.Clone(was.Runs[at][i].Row)
			wantRuns(t, fmt.Sprint(what, ": row ", i, " of run ", at, " shares memory"), s, was)
		}
	}
	for at := range s.Runs {
		was := copiedRuns(s)
		spoil(s.Runs[at])
		s.Runs[at] = copied(was.Runs[at])
		wantRuns(t, fmt.Sprint(what, ": run ", at, " shares memory"), s, was)
	}
}

func TestRunsListsAreApart(t *testing.T) {
	for name, call := range runCalls() {
		for _, s := range runsToCall(t) {
			for _, z := range [][]impl.Item{nil, read(t, "1*1 2,2*1")} {
				wantListsApart(t, name, call(s, z))
			}
		}
	}
}
