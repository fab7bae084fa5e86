package tests

import (
	"fmt"
	"math"
	"math/rand"
	"slices"
	"testing"

	"loop.example/milldam/impl"
)

// read is items by their text, which must be such.
func read(t *testing.T, text string) []impl.Item {
	t.Helper()
	z, ok := readByForm(text)
	if !ok {
		t.Fatalf("%q is no items", text)
	}
	return z
}

// wantTold holds what was told against what is wanted: beside a false there must be none.
func wantTold(t *testing.T, what string, got []impl.Item, ok bool, want []impl.Item, wantOk bool) {
	t.Helper()
	if !wantOk {
		want = nil
	}
	if ok != wantOk || !sameItems(got, want) {
		t.Fatalf("%s: %s, %v; want %s, %v", what, impl.ZText(got), ok, impl.ZText(want), wantOk)
	}
}

// wantText is wantTold of something that can be told, by its text.
func wantText(t *testing.T, what string, got []impl.Item, ok bool, want string) {
	t.Helper()
	wantTold(t, what, got, ok, read(t, want), true)
}

// wantNone is wantTold of something that can not be told.
func wantNone(t *testing.T, what string, got []impl.Item, ok bool) {
	t.Helper()
	wantTold(t, what, got, ok, nil, false)
}

// sumByForm puts rows together one by one, and says whether that is ok.
func sumByForm(z []impl.Item) ([]impl.Item, bool) {
	var sum []impl.Item
	for _, item := range z {
		at := slices.IndexFunc(sum, func(other impl.Item) bool { return slices.Equal(other.Row, item.Row) })
		if at < 0 {
			at = len(sum)
			sum = append(sum, impl.Item{Row: item.Row})
		}
		sum[at].W += item.W
	}
	sum = slices.DeleteFunc(sum, func(item impl.Item) bool { return item.W == 0 })
	slices.SortFunc(sum, func(a, b impl.Item) int { return slices.Compare(a.Row, b.Row) })
	return sum, okByForm(sum)
}

// whereByForm, mapByForm, joinByForm and groupByForm are what is told, said apart from the program.
func whereByForm(z []impl.Item, x impl.Test) ([]impl.Item, bool) {
	good := okByForm(z)
	var kept []impl.Item
	for _, item := range z {
		so, can := testOfByForm(x, item.Row)
		good = good && can
		if so {
			kept = append(kept, item)
		}
	}
	return kept, good
}

func mapByForm(z []impl.Item, cells []impl.Cell) ([]impl.Item, bool) {
	good := okByForm(z) && len(cells) > 0 && len(cells) < 7
	var mapped []impl.Item
	for _, item := range z {
		var row []int
		for _, c := range cells {
			n, can := cellOfByForm(c, item.Row)
			good, row = good && can, append(row, n)
		}
		mapped = append(mapped, impl.Item{Row: row, W: item.W})
	}
	sum, ok := sumByForm(mapped)
	return sum, good && ok
}

func joinByForm(a []impl.Item, b []impl.Item, x int, y int) ([]impl.Item, bool) {
	pairs, good := pairsByForm(a, b, x, y)
	sum, ok := sumByForm(pairs)
	return sum, good && ok && okByForm(a) && okByForm(b)
}

// pairsByForm is what is joined, however much it is, each two rows by themselves; false, if x or y is no place.
func pairsByForm(a []impl.Item, b []impl.Item, x int, y int) ([]impl.Item, bool) {
	if x < 0 || x > 5 || y < 0 || y > 5 {
		return nil, false
	}
	var pairs []impl.Item
	for _, first := range a {
		for _, second := range b {
			if x >= len(first.Row) || y >= len(second.Row) {
				return nil, false
			}
			if first.Row[x] == second.Row[y] {
				pairs = append(pairs, impl.Item{Row: slices.Concat(first.Row, second.Row), W: first.W * second.W})
			}
		}
	}
	return pairs, true
}

func groupByForm(z []impl.Item, keys []int, agg int, at int) ([]impl.Item, bool) {
	if !okByForm(z) || agg < 0 || agg > 3 || len(keys) > 5 {
		return nil, false
	}
	for i, key := range keys {
		if key < 0 || key > 5 || slices.Index(keys, key) != i {
			return nil, false
		}
	}
	for _, item := range z {
		if at < 0 || at >= len(item.Row) || len(keys) > 0 && slices.Max(keys) >= len(item.Row) {
			return nil, false
		}
	}
	var told []impl.Item
	for _, item := range z {
		row := append(atByForm(item.Row, keys), totalByForm(z, item, keys, agg, at))
		again := slices.ContainsFunc(told, func(other impl.Item) bool { return slices.Equal(other.Row, row) })
		if item.W > 0 && !again {
			told = append(told, impl.Item{Row: row, W: 1})
		}
	}
	slices.SortFunc(told, func(a, b impl.Item) int { return slices.Compare(a.Row, b.Row) })
	return told, okByForm(told)
}

func atByForm(row []int, keys []int) []int {
	var cells []int
	for _, key := range keys {
		cells = append(cells, row[key])
	}
	return cells
}

// totalByForm is what is reckoned of the group of an item.
func totalByForm(z []impl.Item, of impl.Item, keys []int, agg int, at int) int {
	count, sum, least, most := 0, 0, math.MaxInt, math.MinInt
	for _, item := range z {
		if item.W > 0 && slices.Equal(atByForm(item.Row, keys), atByForm(of.Row, keys)) {
			count, sum = count+item.W, sum+item.W*item.Row[at]
			least, most = min(least, item.Row[at]), max(most, item.Row[at])
		}
	}
	return []int{count, sum, least, most}[agg]
}

// meanByForm is what a plan means, said apart from the program.
func meanByForm(p impl.Plan, tables [][]impl.Item) ([]impl.Item, bool) {
	if !writableByForm(p) || len(tables) > 3 {
		return nil, false
	}
	var kids [][]impl.Item
	for _, kid := range p.Kids {
		z, ok := meanByForm(kid, tables)
		if !ok {
			return nil, false
		}
		kids = append(kids, z)
	}
	switch p.Kind {
	case 1:
		if p.N >= len(tables) {
			return nil, false
		}
		return tables[p.N], okByForm(tables[p.N])
	case 2:
		return whereByForm(kids[0], p.Test)
	case 3:
		return mapByForm(kids[0], p.Cells)
	case 4:
		return joinByForm(kids[0], kids[1], p.A, p.B)
	case 5:
		return addByForm(kids[0], kids[1])
	case 6:
		once := slices.DeleteFunc(copied(kids[0]), func(item impl.Item) bool { return item.W < 0 })
		for i := range once {
			once[i].W = 1
		}
		return once, true
	}
	return groupByForm(kids[0], p.Keys, p.Agg, p.Col)
}

// someItems is lists of rows of one width each, and of several; many rows have a cell in common, and some are missing.
func someItems() [][]impl.Item {
	lists := [][]impl.Item{nil, {}, many(1, 1, 1), many(0, 4, -3), many(0, 100, 1)}
	r := rand.New(rand.NewSource(5))
	for wide := range 7 {
		for _, count := range []int{1, 3, 8, 20} {
			var z []impl.Item
			for range count {
				row := make([]int, wide)
				if wide == 0 {
					row = make([]int, 1+r.Intn(4))
				}
				for i := range row {
					row[i] = r.Intn(4) - 1
				}
				z = append(z, impl.Item{Row: row, W: []int{-10000, -2, -1, 1, 1, 2, 3, 10000}[r.Intn(8)]})
			}
			slices.SortFunc(z, func(a, b impl.Item) int { return slices.Compare(a.Row, b.Row) })
			lists = append(lists, slices.CompactFunc(z, func(a, b impl.Item) bool { return slices.Equal(a.Row, b.Row) }))
		}
	}
	return lists
}

// someTests is tests of each kind, also such as can not be asked of most rows.
func someTests() []impl.Test {
	var tests []impl.Test
	for _, kind := range []int{1, 2} {
		for _, not := range []bool{false, true} {
			for _, sides := range [][2]impl.Cell{
				{col(0), num(1)}, {num(0), col(0)}, {col(0), col(0)}, {num(1), num(2)}, {col(0), col(1)}, {sumOf(0, 1), col(1)}, {col(2), num(0)}, {num(0), sumOf(0, 5)}, {col(6), num(0)}, {num(0), impl.Cell{}},
			} {
				tests = append(tests, impl.Test{Kind: kind, Not: not, L: sides[0], R: sides[1]})
			}
		}
	}
	return append(tests, impl.Test{}, impl.Test{Kind: 3, L: col(0), R: col(0)})
}

func TestWhereRows(t *testing.T) {
	z := read(t, "-3,1*-2 1,1*5 1,2*1 2,0*-1 2,9*10000 4,4*1")
	for text, want := range map[string]string{
		"c0<c1":    "-3,1*-2 1,2*1 2,9*10000",
		"!c0<c1":   "1,1*5 2,0*-1 4,4*1",
		"c0=c1":    "1,1*5 4,4*1",
		"!c0=#2":   "-3,1*-2 1,1*5 1,2*1 4,4*1",
		"c0+c1=#2": "1,1*5 2,0*-1",
		"#0<#1":    "-3,1*-2 1,1*5 1,2*1 2,0*-1 2,9*10000 4,4*1",
		"#1<#0":    "",
	} {
		x, ok := testByForm(text)
		if !ok {
			t.Fatal(text)
		}
		got, ok := impl.WhereOf(z, x)
		wantText(t, text, got, ok, want)
	}
}

func TestWhereThatCanNotBeReckoned(t *testing.T) {
	mixed := read(t, "1*1 1,2*1 3*-1")
	for name, x := range map[string]impl.Test{"of some rows alone": less(num(0), col(1)), "of none": less(col(2), num(0)), "no kind": {}, "an unknown kind": {Kind: 3, L: col(0), R: col(0)}} {
		got, ok := impl.WhereOf(mixed, x)
		wantNone(t, name, got, ok)
		got, ok = impl.WhereOf(nil, x)
		wantText(t, name+", no rows", got, ok, "")
	}
	for name, c := range wrongCells() {
		got, ok := impl.WhereOf(mixed, less(c, num(0)))
		wantNone(t, name, got, ok)
		got, ok = impl.WhereOf(many(0, 1, -1), less(num(0), c))
		wantNone(t, name, got, ok)
	}
	// The sum can be in no cell, of the last row alone.
	x := less(sumOf(0, 1), num(0))
	got, ok := impl.WhereOf(read(t, "0,0*1 1000000000,0*1"), x)
	wantText(t, "just in a cell", got, ok, "")
	got, ok = impl.WhereOf(read(t, "0,0*1 1000000000,1*1"), x)
	wantNone(t, "in no cell", got, ok)
	for name, z := range wrongItems() {
		got, ok := impl.WhereOf(z, less(num(0), num(1)))
		wantNone(t, name, got, ok)
	}
}

func TestWhereOfAll(t *testing.T) {
	for _, z := range append(someItems(), smallItems()...) {
		for _, x := range someTests() {
			got, ok := impl.WhereOf(z, x)
			want, wantOk := whereByForm(z, x)
			wantTold(t, fmt.Sprint(z, x), got, ok, want, wantOk)
		}
	}
}

func TestMapRows(t *testing.T) {
	z := read(t, "-1,5*2 1,5*-3 1,6*4 2,0*1")
	for _, c := range []struct {
		cells []impl.Cell
		want  string
	}{
		{[]impl.Cell{col(0)}, "-1*2 1*1 2*1"},
		{[]impl.Cell{col(1)}, "0*1 5*-1 6*4"},
		{[]impl.Cell{col(1), col(0)}, "0,2*1 5,-1*2 5,1*-3 6,1*4"},
		{[]impl.Cell{sumOf(0, 1), num(-7), col(0)}, "2,-7,2*1 4,-7,-1*2 6,-7,1*-3 7,-7,1*4"},
		{[]impl.Cell{num(9)}, "9*4"},
		{[]impl.Cell{col(0), col(0), col(0), col(1), col(1), col(1)}, "-1,-1,-1,5,5,5*2 1,1,1,5,5,5*-3 1,1,1,6,6,6*4 2,2,2,0,0,0*1"},
	} {
		got, ok := impl.MapOf(z, c.cells)
		wantText(t, fmt.Sprint(c.cells), got, ok, c.want)
	}
}

// TestMapToOneRow maps two rows, and more, to one: only what all weights come to is looked at.
func TestMapToOneRow(t *testing.T) {
	for _, c := range []struct {
		text string
		want string
		ok   bool
	}{
		{"1,1*5 1,2*-5", "", true},
		{"1,1*5 1,2*-5 2,0*1", "2*1", true},
		{"1,1*10000 1,2*-10000", "", true},
		{"1,1*9999 1,2*1", "1*10000", true},
		{"1,1*9999 1,2*2", "", false},
		{"1,1*-9999 1,2*-1", "1*-10000", true},
		{"1,1*-9999 1,2*-2", "", false},
		{"1,1*10000 1,2*10000 1,3*-10000", "1*10000", true},
		{"1,1*10000 1,2*10000 1,3*-9999", "", false},
		{"1,1*10000 1,2*10000 1,3*-10000 1,4*-10000", "", true},
		{"0,0*1 1,1*10000 1,2*1 2,0*1", "", false},
	} {
		got, ok := impl.MapOf(read(t, c.text), []impl.Cell{col(0)})
		wantTold(t, c.text, got, ok, read(t, c.want), c.ok)
	}
	full := many(0, 100, 10000)
	got, ok := impl.MapOf(full, []impl.Cell{num(1)})
	wantNone(t, "all to one", got, ok)
	for i := range full {
		full[i].W = 10000 - i%2*20000
	}
	got, ok = impl.MapOf(full, []impl.Cell{num(1)})
	wantText(t, "all to one, which is not there", got, ok, "")
	got, ok = impl.MapOf(many(-50, 100, -3), []impl.Cell{col(0), col(0)})
	if !ok || len(got) != 100 || !slices.Equal(got[0].Row, []int{-50, -50}) || got[99].W != -3 {
		t.Error("100 rows:", got, ok)
	}
}

func TestMapCells(t *testing.T) {
	for count := range 9 {
		cells := slices.Repeat([]impl.Cell{num(2)}, count)
		good := count >= 1 && count <= 6
		got, ok := impl.MapOf(many(0, 3, 1), cells)
		wantTold(t, fmt.Sprint(count, " cells"), got, ok, []impl.Item{{Row: slices.Repeat([]int{2}, count), W: 3}}, good)
		got, ok = impl.MapOf(nil, cells)
		wantTold(t, fmt.Sprint(count, " cells of no rows"), got, ok, nil, good)
	}
	mixed := read(t, "1*1 1,2*1 3*-1")
	for name, c := range wrongCells() {
		got, ok := impl.MapOf(mixed, []impl.Cell{num(0), c})
		wantNone(t, name, got, ok)
		got, ok = impl.MapOf(nil, []impl.Cell{c})
		wantText(t, name+", no rows", got, ok, "")
	}
	for _, cells := range [][]impl.Cell{{col(1)}, {col(0), sumOf(0, 1)}, {col(2), col(0)}} {
		got, ok := impl.MapOf(mixed, cells)
		wantNone(t, fmt.Sprint(cells, " of some rows alone"), got, ok)
	}
	got, ok := impl.MapOf(read(t, "999999999,1*1 1000000000,-1*1"), []impl.Cell{sumOf(0, 1)})
	wantText(t, "just in a cell", got, ok, "999999999*1 1000000000*1")
	got, ok = impl.MapOf(read(t, "0,0*1 1000000000,1*-1"), []impl.Cell{sumOf(0, 1)})
	wantNone(t, "in no cell", got, ok)
	for name, z := range wrongItems() {
		got, ok := impl.MapOf(z, []impl.Cell{num(1)})
		wantNone(t, name, got, ok)
	}
}

func TestMapOfAll(t *testing.T) {
	some := []impl.Cell{col(0), num(1), sumOf(0, 1), col(2), col(6)}
	lists := [][]impl.Cell{nil, slices.Repeat(some[:1], 6), slices.Repeat(some[:1], 7)}
	for _, a := range some {
		lists = append(lists, []impl.Cell{a})
		for _, b := range some {
			lists = append(lists, []impl.Cell{a, b})
		}
	}
	for _, z := range append(someItems(), smallItems()...) {
		for _, cells := range lists {
			got, ok := impl.MapOf(z, cells)
			want, wantOk := mapByForm(z, cells)
			wantTold(t, fmt.Sprint(z, cells), got, ok, want, wantOk)
		}
	}
}

func TestJoinRows(t *testing.T) {
	for _, c := range []struct {
		a, b string
		x, y int
		want string
	}{
		{"1,10*2 2,20*1 3,30*1", "1,5*3 1,6*1 2,7*1 4,8*1", 0, 0, "1,10,1,5*6 1,10,1,6*2 2,20,2,7*1"},
		{"1,10*2 2,20*1", "5,1*3 6,1*1 7,2*1", 0, 1, "1,10,5,1*6 1,10,6,1*2 2,20,7,2*1"},
		{"10,1*1 20,1*1", "1*1", 1, 0, "10,1,1*1 20,1,1*1"},
		{"1*1", "2*1", 0, 0, ""},
		{"", "", 0, 0, ""},
		{"1*1", "", 0, 0, ""},
		{"", "1*1", 0, 0, ""},
		{"-1*3 2*-2", "-1*-5 2*-7", 0, 0, "-1,-1*-15 2,2*14"},
		{"1*-4 2*4", "1*5 2*-5", 0, 0, "1,1*-20 2,2*-20"},
		{"1*100", "1*100", 0, 0, "1,1*10000"},
		{"1*-100", "1*100", 0, 0, "1,1*-10000"},
		{"1*10000 2*-1", "1*-1 2*-10000", 0, 0, "1,1*-10000 2,2*10000"},
		{"7,1,1*1", "1,1,8*1", 1, 0, "7,1,1,1,1,8*1"},
		{"7*1", "1,1,1,1,7*1", 0, 4, "7,1,1,1,1,7*1"},
		{"1,1,1,1,7*1", "7*1", 4, 0, "1,1,1,1,7,7*1"},
	} {
		got, ok := impl.JoinOf(read(t, c.a), read(t, c.b), c.x, c.y)
		wantText(t, fmt.Sprint(c), got, ok, c.want)
	}
}

// TestJoinToOneRow joins rows of several widths, so that two pairs are one row.
func TestJoinToOneRow(t *testing.T) {
	for _, c := range []struct{ a, b, want string }{
		{"1*2 1,1*3", "1*5 1,1*7", "1,1*10 1,1,1*29 1,1,1,1*21"},
		{"1*1 1,1*1", "1*1 1,1*-1", "1,1*1 1,1,1,1*-1"},
		{"1*73 1,1*-1", "1*1 1,1*137", "1,1*73 1,1,1*10000 1,1,1,1*-137"},
		{"1,2*1 1,2,1*1", "1,1,3*1 1,3*1", "1,2,1,1,1,3*1 1,2,1,1,3*2 1,2,1,3*1"},
	} {
		got, ok := impl.JoinOf(read(t, c.a), read(t, c.b), 0, 0)
		wantText(t, fmt.Sprint(c), got, ok, c.want)
	}
}

func TestJoinTooMuch(t *testing.T) {
	for _, c := range []struct{ a, b string }{
		{"1*10000", "1*2"}, {"1*-10000", "1*2"}, {"1*101", "1*100"}, {"1*10000", "1*10000"}, {"1*-10000", "1*-10000"},
		{"1*5000 1,1*5001", "1*1 1,1*1"},
		{"1,1,1,1*1", "1,1,1*1"}, {"1*1", "1,1,1,1,1,1*1"}, {"1,1,1,1,1,1*1", "1*1"}, {"1,1,1,1,1,1*1", "1,1,1,1,1,1*1"},
		{"1,1,1*1 1,1,1,1*1", "1,1,1*1"}, {"0*1 1,1,1,1,1,1*1", "0*1 1*1"},
	} {
		got, ok := impl.JoinOf(read(t, c.a), read(t, c.b), 0, 0)
		wantNone(t, fmt.Sprint(c), got, ok)
	}
	got, ok := impl.JoinOf(read(t, "0*1 1,1,1,1,1,1*1"), read(t, "0*1"), 0, 0)
	wantText(t, "a wide row that is not joined", got, ok, "0,0*1")
	ten := many(0, 10, 1)
	for i := range ten {
		ten[i].Row = []int{7, i}
	}
	got, ok = impl.JoinOf(ten, ten, 0, 0)
	if !ok || len(got) != 100 || !okByForm(got) || !slices.Equal(got[99].Row, []int{7, 9, 7, 9}) {
		t.Error("100 rows that are joined:", got, ok)
	}
	eleven := append(copied(ten), impl.Item{Row: []int{8, 0}, W: 1})
	got, ok = impl.JoinOf(eleven, eleven, 0, 0)
	wantNone(t, "101 rows that are joined", got, ok)
	got, ok = impl.JoinOf(many(0, 100, 100), many(0, 100, -100), 0, 0)
	if !ok || len(got) != 100 || got[42].W != -10000 || !slices.Equal(got[42].Row, []int{42, 42}) {
		t.Error("100 rows and 100:", got, ok)
	}
	one := impl.Item{Row: []int{3}, W: 1}
	wide := many(0, 100, 1)
	for i := range wide {
		wide[i].Row = []int{3, i}
	}
	got, ok = impl.JoinOf(wide, []impl.Item{one, {Row: []int{3, 0}, W: 1}}, 0, 0)
	wantNone(t, "200 rows that are joined", got, ok)
	got, ok = impl.JoinOf(wide, []impl.Item{one}, 0, 0)
	if !ok || len(got) != 100 {
		t.Error("one for all:", got, ok)
	}
}

func TestJoinPlaces(t *testing.T) {
	six := read(t, "5,5,5,5,5,5*1")
	one := read(t, "5*1")
	for _, at := range []int{math.MinInt, -1, 0, 1, 4, 5, 6, 7, math.MaxInt} {
		good := at >= 0 && at <= 5
		for _, other := range [][]impl.Item{nil, {}} {
			got, ok := impl.JoinOf(six, other, at, 0)
			wantTold(t, fmt.Sprint("x ", at, ", no rows in b"), got, ok, nil, good)
			got, ok = impl.JoinOf(other, six, 0, at)
			wantTold(t, fmt.Sprint("y ", at, ", no rows in a"), got, ok, nil, good)
			got, ok = impl.JoinOf(other, other, at, 5)
			wantTold(t, fmt.Sprint("x ", at, ", no rows"), got, ok, nil, good)
			got, ok = impl.JoinOf(other, other, 5, at)
			wantTold(t, fmt.Sprint("y ", at, ", no rows"), got, ok, nil, good)
		}
		got, ok := impl.JoinOf(six, read(t, "4*1"), at, 0)
		wantTold(t, fmt.Sprint("x ", at), got, ok, nil, good)
		got, ok = impl.JoinOf(read(t, "4*1"), six, 0, at)
		wantTold(t, fmt.Sprint("y ", at), got, ok, nil, good)
		got, ok = impl.JoinOf(one, one, at, 0)
		wantTold(t, fmt.Sprint("x ", at, " of one cell"), got, ok, read(t, "5,5*1"), at == 0)
		got, ok = impl.JoinOf(one, one, 0, at)
		wantTold(t, fmt.Sprint("y ", at, " of one cell"), got, ok, read(t, "5,5*1"), at == 0)
	}
}

// TestJoinPlaceOfSomeRows has rows of several widths: each two rows are looked at, but if one list has none there are no two.
func TestJoinPlaceOfSomeRows(t *testing.T) {
	mixed := read(t, "1,2*1 3*-1")
	for _, other := range []string{"7,7*1", "2,2*1"} {
		got, ok := impl.JoinOf(mixed, read(t, other), 1, 0)
		wantNone(t, "x", got, ok)
		got, ok = impl.JoinOf(read(t, other), mixed, 0, 1)
		wantNone(t, "y", got, ok)
	}
	got, ok := impl.JoinOf(mixed, nil, 1, 5)
	wantText(t, "no rows in b", got, ok, "")
	got, ok = impl.JoinOf(nil, mixed, 5, 1)
	wantText(t, "no rows in a", got, ok, "")
	got, ok = impl.JoinOf(mixed, mixed, 0, 0)
	wantText(t, "a place of all", got, ok, "1,2,1,2*1 3,3*1")
}

func TestJoinOfAll(t *testing.T) {
	lists := append(someItems(), smallItems()[:40]...)
	for _, z := range wrongItems() {
		lists = append(lists, z)
	}
	for _, a := range lists {
		for _, b := range lists {
			for _, at := range [][2]int{{0, 0}, {0, 1}, {1, 0}, {2, 3}, {5, 5}, {6, 0}, {0, -1}} {
				got, ok := impl.JoinOf(a, b, at[0], at[1])
				want, wantOk := joinByForm(a, b, at[0], at[1])
				wantTold(t, fmt.Sprint(a, b, at), got, ok, want, wantOk)
			}
		}
	}
}

func TestGroupRows(t *testing.T) {
	z := read(t, "1,-5,8*2 1,3,9*1 1,7,7*-4 2,0,1*-1 3,-9,5*1 3,-2,5*3 3,4,4*10000")
	for _, c := range []struct {
		keys []int
		agg  int
		at   int
		want string
	}{
		{[]int{0}, 0, 1, "1,3*1 3,10004*1"},
		{[]int{0}, 1, 1, "1,-7*1 3,39985*1"},
		{[]int{0}, 2, 1, "1,-5*1 3,-9*1"},
		{[]int{0}, 3, 1, "1,3*1 3,4*1"},
		{[]int{0}, 3, 0, "1,1*1 3,3*1"},
		{nil, 0, 0, "10007*1"},
		{nil, 1, 1, "39978*1"},
		{[]int{}, 2, 1, "-9*1"},
		{[]int{}, 3, 2, "9*1"},
		{[]int{2}, 0, 0, "4,10000*1 5,4*1 8,2*1 9,1*1"},
		{[]int{2, 0}, 0, 0, "4,3,10000*1 5,3,4*1 8,1,2*1 9,1,1*1"},
		{[]int{0, 2}, 1, 1, "1,8,-10*1 1,9,3*1 3,4,40000*1 3,5,-15*1"},
		{[]int{1, 0, 2}, 2, 2, "-9,3,5,5*1 -5,1,8,8*1 -2,3,5,5*1 3,1,9,9*1 4,3,4,4*1"},
	} {
		got, ok := impl.GroupOf(z, c.keys, c.agg, c.at)
		wantText(t, fmt.Sprint(c), got, ok, c.want)
	}
}

// TestGroupOfMissingRows has groups that are missing in whole and in part.
func TestGroupOfMissingRows(t *testing.T) {
	for agg := range 4 {
		for _, keys := range [][]int{nil, {0}, {1}, {0, 1}} {
			got, ok := impl.GroupOf(nil, keys, agg, 0)
			wantText(t, "no rows", got, ok, "")
			got, ok = impl.GroupOf(read(t, "1,2*-1 1,3*-10000"), keys, agg, 1)
			wantText(t, "missing rows", got, ok, "")
		}
	}
	z := read(t, "1,-8*-5 1,2*1 1,9*-5 2,2*-1")
	for agg, want := range []string{"1,1*1", "1,2*1", "1,2*1", "1,2*1"} {
		got, ok := impl.GroupOf(z, []int{0}, agg, 1)
		wantText(t, fmt.Sprint("agg ", agg), got, ok, want)
	}
}

// TestGroupBelow0 has cells below 0 alone, and above 0 alone: the least and the greatest are cells, not 0.
func TestGroupBelow0(t *testing.T) {
	for _, c := range []struct {
		text string
		agg  int
		want string
	}{
		{"-7*1 -3*2", 2, "-7*1"}, {"-7*1 -3*2", 3, "-3*1"}, {"3*1 7*2", 2, "3*1"}, {"3*1 7*2", 3, "7*1"}, {"-7*2 -3*1", 1, "-17*1"},
		{"-1000000000*10000 1000000000*1", 2, "-1000000000*1"}, {"-1000000000*10000 1000000000*1", 3, "1000000000*1"}, {"0*5", 2, "0*1"}, {"0*5", 1, "0*1"},
	} {
		got, ok := impl.GroupOf(read(t, c.text), nil, c.agg, 0)
		wantText(t, fmt.Sprint(c), got, ok, c.want)
	}
}

func TestGroupSums(t *testing.T) {
	for _, c := range []struct {
		text string
		want string
		ok   bool
	}{
		{"1000000000*1", "1000000000*1", true}, {"-1000000000*1", "-1000000000*1", true}, {"100000*10000", "1000000000*1", true}, {"-100000*10000", "-1000000000*1", true},
		{"1*1 100000*10000", "", false}, {"-100000*10000 -1*1", "", false}, {"100001*10000", "", false}, {"1000000000*10000", "", false}, {"-1000000000*10000", "", false},
		{"-1*1 100000*10000", "999999999*1", true}, {"-1000000000*10000 1000000000*10000", "0*1", true}, {"-1000000000*10000 1*1 999999999*10000", "-9999*1", true},
		{"-1000000000*3 0*1 1000000000*4", "1000000000*1", true}, {"-1000000000*3 1*1 1000000000*4", "", false},
	} {
		got, ok := impl.GroupOf(read(t, c.text), nil, 1, 0)
		wantTold(t, c.text, got, ok, read(t, c.want), c.ok)
	}
	// One group of several is too great.
	z := read(t, "1,5*1 2,1000000000*2 3,5*1")
	got, ok := impl.GroupOf(z, []int{0}, 1, 1)
	wantNone(t, "one of three", got, ok)
	for agg, want := range map[int]string{0: "1,1*1 2,2*1 3,1*1", 2: "1,5*1 2,1000000000*1 3,5*1", 3: "1,5*1 2,1000000000*1 3,5*1"} {
		got, ok = impl.GroupOf(z, []int{0}, agg, 1)
		wantText(t, fmt.Sprint("agg ", agg), got, ok, want)
	}
	got, ok = impl.GroupOf(many(0, 100, 10000), nil, 0, 0)
	wantText(t, "all weights", got, ok, "1000000*1")
	got, ok = impl.GroupOf(many(-50, 100, 10000), []int{0}, 0, 0)
	if !ok || len(got) != 100 || !slices.Equal(got[7].Row, []int{-43, 10000}) || got[7].W != 1 {
		t.Error("100 groups:", got, ok)
	}
}

func TestGroupKeys(t *testing.T) {
	six := read(t, "1,2,3,4,5,6*2")
	for _, c := range []struct {
		keys []int
		want string
		ok   bool
	}{
		{nil, "2*1", true}, {[]int{5}, "6,2*1", true}, {[]int{0, 1, 2, 3, 4}, "1,2,3,4,5,2*1", true}, {[]int{5, 4, 3, 2, 1}, "6,5,4,3,2,2*1", true}, {[]int{3, 0}, "4,1,2*1", true},
		{[]int{0, 1, 2, 3, 4, 5}, "", false}, {[]int{0, 0}, "", false}, {[]int{1, 2, 1}, "", false}, {[]int{6}, "", false}, {[]int{-1}, "", false}, {[]int{0, -1}, "", false}, {[]int{0, 6}, "", false},
		{[]int{math.MinInt}, "", false}, {[]int{math.MaxInt}, "", false}, {make([]int, 100000), "", false},
	} {
		got, ok := impl.GroupOf(six, c.keys, 0, 0)
		wantTold(t, fmt.Sprint("keys ", c.keys), got, ok, read(t, c.want), c.ok)
		got, ok = impl.GroupOf(nil, c.keys, 0, 0)
		wantTold(t, fmt.Sprint("keys ", c.keys, " of no rows"), got, ok, nil, c.ok)
	}
	// A key and a col must be places of each row, also of those that are missing.
	for _, text := range []string{"1*1 1,2*1", "1*-1 1,2*1", "1*1 1,2*-1", "1*-1", "1*1"} {
		z := read(t, text)
		for agg := range 4 {
			got, ok := impl.GroupOf(z, []int{1}, agg, 0)
			wantNone(t, text+", key 1", got, ok)
			got, ok = impl.GroupOf(z, []int{0, 1}, agg, 0)
			wantNone(t, text+", keys 0 and 1", got, ok)
			got, ok = impl.GroupOf(z, nil, agg, 1)
			wantNone(t, text+", col 1", got, ok)
			got, ok = impl.GroupOf(z, []int{0}, agg, 1)
			wantNone(t, text+", key 0 and col 1", got, ok)
		}
	}
	got, ok := impl.GroupOf(read(t, "1*1 1,2*1 3,1,1*1"), []int{0}, 0, 0)
	wantText(t, "rows of several widths in a group", got, ok, "1,2*1 3,1*1")
}

func TestGroupColsAndAggs(t *testing.T) {
	z := read(t, "1,7*2 2,8*1")
	for _, at := range []int{math.MinInt, -1, 0, 1, 2, 5, 6, math.MaxInt} {
		for agg := range 4 {
			want := []string{"3*1", "4*1", "1*1", "2*1"}
			if at == 1 {
				want = []string{"3*1", "22*1", "7*1", "8*1"}
			}
			got, ok := impl.GroupOf(z, nil, agg, at)
			wantTold(t, fmt.Sprint("col ", at), got, ok, read(t, want[agg]), at == 0 || at == 1)
			got, ok = impl.GroupOf(nil, nil, agg, at)
			wantText(t, fmt.Sprint("col ", at, " of no rows"), got, ok, "")
		}
	}
	for _, agg := range []int{math.MinInt, -1, 4, 5, math.MaxInt} {
		for _, of := range [][]impl.Item{z, nil} {
			got, ok := impl.GroupOf(of, nil, agg, 0)
			wantNone(t, fmt.Sprint("agg ", agg), got, ok)
		}
	}
	for name, wrong := range wrongItems() {
		for agg := range 4 {
			got, ok := impl.GroupOf(wrong, nil, agg, 0)
			wantNone(t, name, got, ok)
		}
	}
}

// TestGroupTexts has cells whose signs run into each other if nothing is between them.
func TestGroupTexts(t *testing.T) {
	z := read(t, "1,-1,0*1 1,11,0*2 11,-1,0*3 11,1,0*4")
	got, ok := impl.GroupOf(z, []int{0, 1}, 0, 0)
	wantText(t, "two keys", got, ok, "1,-1,1*1 1,11,2*1 11,-1,3*1 11,1,4*1")
	got, ok = impl.GroupOf(z, []int{1, 0}, 0, 0)
	wantText(t, "two keys in another order", got, ok, "-1,1,1*1 -1,11,3*1 1,11,4*1 11,1,2*1")
}

func TestGroupOfAll(t *testing.T) {
	lists := someItems()
	for _, z := range wrongItems() {
		lists = append(lists, z)
	}
	for _, z := range append(lists, smallItems()...) {
		for _, keys := range [][]int{nil, {0}, {1}, {0, 1}, {1, 0}, {2, 0}, {3, 1, 2}, {0, 1, 2, 3, 4}, {5}, {6}, {-1}, {1, 1}, {0, 1, 2, 3, 4, 5}} {
			for agg := -1; agg <= 4; agg++ {
				for _, at := range []int{-1, 0, 1, 3, 5, 6} {
					got, ok := impl.GroupOf(z, keys, agg, at)
					want, wantOk := groupByForm(z, keys, agg, at)
					wantTold(t, fmt.Sprint(z, keys, agg, at), got, ok, want, wantOk)
				}
			}
		}
	}
}

// TestMeanAlways asks for the same answer again and again: a map is gone through in another order each time.
func TestMeanAlways(t *testing.T) {
	z := many(0, 100, 1)
	p := planRead(t, "group 0 sum 1 join 0 0 t0 t0")
	first, ok := impl.MeanOf(p, [][]impl.Item{z})
	if !ok || len(first) != 100 {
		t.Fatal(first, ok)
	}
	for range 50 {
		again, ok := impl.MeanOf(p, [][]impl.Item{z})
		wantTold(t, "again", again, ok, first, true)
	}
}

// meanTables is three tables of two cells, with rows that are missing.
func meanTables(t *testing.T) [][]impl.Item {
	return [][]impl.Item{read(t, "1,10*2 1,20*1 2,30*1 4,-4*-1"), read(t, "1,7*1 2,2*-3 3,8*1"), read(t, "1,10*-2 9,9*5")}
}

func TestMeanOfEachKind(t *testing.T) {
	for text, want := range map[string]string{
		"t0":                                  "1,10*2 1,20*1 2,30*1 4,-4*-1",
		"t1":                                  "1,7*1 2,2*-3 3,8*1",
		"t2":                                  "1,10*-2 9,9*5",
		"where c1<#25 t0":                     "1,10*2 1,20*1 4,-4*-1",
		"where !c1<#25 t0":                    "2,30*1",
		"map c0 t0":                           "1*3 2*1 4*-1",
		"map c1,c0 t0":                        "-4,4*-1 10,1*2 20,1*1 30,2*1",
		"join 0 0 t0 t1":                      "1,10,1,7*2 1,20,1,7*1 2,30,2,2*-3",
		"join 0 0 t1 t0":                      "1,7,1,10*2 1,7,1,20*1 2,2,2,30*-3",
		"join 1 0 t1 t1":                      "2,2,2,2*9",
		"join 0 0 t2 t2":                      "1,10,1,10*4 9,9,9,9*25",
		"both t0 t2":                          "1,20*1 2,30*1 4,-4*-1 9,9*5",
		"both t0 t0":                          "1,10*4 1,20*2 2,30*2 4,-4*-2",
		"once t0":                             "1,10*1 1,20*1 2,30*1",
		"once t1":                             "1,7*1 3,8*1",
		"once map c0 t0":                      "1*1 2*1",
		"map c0 once t0":                      "1*2 2*1",
		"group 0 count 1 t0":                  "1,3*1 2,1*1",
		"group 0 sum 1 t0":                    "1,40*1 2,30*1",
		"group - least 1 t0":                  "10*1",
		"group - most 1 t0":                   "30*1",
		"group - count 0 t0":                  "4*1",
		"group - count 0 where c0<#0 t0":      "",
		"group 0 sum 3 join 0 0 t0 t1":        "1,21*1",
		"where c0=#1 group 0 sum 1 t0":        "1,40*1",
		"join 0 0 group 0 count 0 t0 once t1": "1,3,1,7*1",
		"both once t0 where c0<#2 t2":         "1,10*-1 1,20*1 2,30*1",
		"both both t0 t1 t2":                  "1,7*1 1,20*1 2,2*-3 2,30*1 3,8*1 4,-4*-1 9,9*5",
		"map c1 where c0=#1 both once t0 t2":  "10*-1 20*1",
		"once group 1 most 0 both t0 t1":      "7,1*1 8,3*1 10,1*1 20,1*1 30,2*1",
	} {
		p := planRead(t, text)
		got, ok := impl.MeanOf(p, meanTables(t))
		wantText(t, text, got, ok, want)
		byForm, byFormOk := meanByForm(p, meanTables(t))
		wantTold(t, text, got, ok, byForm, byFormOk)
	}
}

func TestMeanOfTables(t *testing.T) {
	one := many(1, 1, 1)
	for count := range 6 {
		tables := slices.Repeat([][]impl.Item{one}, count)
		for n := range 3 {
			got, ok := impl.MeanOf(tableOf(n), tables)
			wantTold(t, fmt.Sprint("t", n, " of ", count), got, ok, one, count <= 3 && n < count)
			got, ok = impl.MeanOf(onceOf(bothOf(tableOf(0), tableOf(n))), tables)
			wantTold(t, fmt.Sprint("both with t", n, " of ", count), got, ok, one, count <= 3 && n < count)
		}
	}
	got, ok := impl.MeanOf(tableOf(1), [][]impl.Item{nil, nil})
	wantText(t, "a table of nothing", got, ok, "")
	got, ok = impl.MeanOf(tableOf(0), [][]impl.Item{many(0, 100, 10000), nil, nil})
	wantTold(t, "a full table", got, ok, many(0, 100, 10000), true)
	for name, z := range wrongItems() {
		for at := range 3 {
			tables := [][]impl.Item{one, one, one}
			tables[at] = z
			got, ok := impl.MeanOf(tableOf(1), tables)
			wantTold(t, name, got, ok, one, at != 1)
			got, ok = impl.MeanOf(joinOf(0, 0, tableOf(2), onceOf(tableOf(1))), tables)
			wantTold(t, name+", joined", got, ok, read(t, "1,1*1"), at == 0)
		}
	}
}

// TestMeanThatCanNotBeTold has a part that tells false, alone and deep in a plan.
func TestMeanThatCanNotBeTold(t *testing.T) {
	full := many(0, 100, 10000)
	for name, c := range map[string]struct {
		text string
		z    []impl.Item
	}{
		"no such cell to ask":     {"where c2<c0 t0", read(t, "1,2*1")},
		"no such cell of one row": {"where c1<c0 t0", read(t, "1,2*1 2*1")},
		"no such cell to map":     {"map c1 t0", read(t, "1*1")},
		"a sum in no cell":        {"map c0+c0 t0", read(t, "500000001*1")},
		"mapped to too much":      {"map #1 t0", full},
		"joined to too much":      {"join 0 0 t0 t0", full},
		"joined too wide":         {"join 0 0 t0 t0", read(t, "1,2,3,4*1")},
		"no such cell to join":    {"join 0 1 t0 t0", read(t, "1*1")},
		"both too much":           {"both t0 t0", full},
		"no such key":             {"group 1 count 0 t0", read(t, "1*1")},
		"no such col":             {"group 0 count 1 t0", read(t, "1*1")},
		"a great sum":             {"group - sum 0 t0", read(t, "1000000000*2")},
		"no such table":           {"t1", full},
	} {
		p := planRead(t, c.text)
		around := map[string]impl.Plan{"alone": p, "once": onceOf(p), "first": bothOf(p, tableOf(0)), "second": bothOf(tableOf(0), p), "joined": joinOf(0, 0, whereOf(less(num(1), num(0)), tableOf(0)), p), "deep": onceOf(onceOf(whereOf(less(num(1), num(0)), p))), "in a group": groupOf(nil, 0, 0, p), "mapped": mapOf(p, num(0))}
		for where, whole := range around {
			got, ok := impl.MeanOf(whole, [][]impl.Item{c.z})
			wantNone(t, name+", "+where, got, ok)
		}
	}
}

// TestMeanOfNoPlan has plans that can not be written, also such as have no end.
func TestMeanOfNoPlan(t *testing.T) {
	bushy := tableOf(0)
	for range 100 {
		bushy = bothOf(bushy, bushy)
	}
	tables := [][]impl.Item{read(t, "1,1*1"), nil, nil}
	wrong := map[string]impl.Plan{
		"nothing": {}, "kind 8": {Kind: 8}, "kind -1": {Kind: -1}, "table 3": tableOf(3), "table -1": tableOf(-1), "a table with a kid": {Kind: 1, Kids: []impl.Plan{tableOf(0)}}, "a table with A": {Kind: 1, A: 1},
		"once of none": {Kind: 6}, "once of two": {Kind: 6, Kids: []impl.Plan{tableOf(0), tableOf(0)}}, "both of one": {Kind: 5, Kids: []impl.Plan{tableOf(0)}},
		"no test": whereOf(impl.Test{}, tableOf(0)), "a test of c6": whereOf(less(col(6), num(0)), tableOf(1)), "no cells": mapOf(tableOf(0)), "7 cells": mapOf(tableOf(0), slices.Repeat([]impl.Cell{num(1)}, 7)...), "a wrong cell": mapOf(tableOf(1), col(6)),
		"join at 6": joinOf(6, 0, tableOf(1), tableOf(1)), "join at -1": joinOf(0, -1, tableOf(1), tableOf(1)), "6 keys": groupOf([]int{0, 1, 2, 3, 4, 5}, 0, 0, tableOf(1)), "a key twice": groupOf([]int{0, 0}, 0, 0, tableOf(0)),
		"agg 4": groupOf(nil, 4, 0, tableOf(0)), "agg -1": groupOf(nil, -1, 0, tableOf(0)), "col 6": groupOf(nil, 0, 6, tableOf(1)), "col -1": groupOf(nil, 0, -1, tableOf(1)),
		"too deep": nested(6, tableOf(0)), "too many": bothOf(bothOf(bothOf(tableOf(0), tableOf(0)), bothOf(tableOf(0), tableOf(0))), bothOf(tableOf(0), tableOf(0))),
		"bushy": bushy, "long": nested(100000, tableOf(0)), "round": round(onceOf(tableOf(0)), 0), "round in 3": round(onceOf(tableOf(0)), 3),
	}
	for name, p := range wrong {
		got, ok := impl.MeanOf(p, tables)
		wantNone(t, name, got, ok)
		got, ok = impl.MeanOf(onceOf(p), tables)
		wantNone(t, name+", once", got, ok)
	}
	got, ok := impl.MeanOf(nested(5, tableOf(0)), tables)
	wantText(t, "just as deep", got, ok, "1,1*1")
	ten := onceOf(bothOf(bothOf(bothOf(tableOf(0), tableOf(0)), tableOf(0)), bothOf(tableOf(0), tableOf(0))))
	got, ok = impl.MeanOf(ten, tables)
	wantText(t, "just as many", got, ok, "1,1*1")
}

// somePlan is a plan with up to so many others in it, each of which is mostly as it must be.
func somePlan(r *rand.Rand, deep int) impl.Plan {
	kind := 1 + r.Intn(7)
	if deep == 0 {
		kind = 1
	}
	place := func() int { return r.Intn(2 + r.Intn(2)) }
	cell := func() impl.Cell {
		return []impl.Cell{col(place()), num(r.Intn(3)), sumOf(place(), place())}[r.Intn(3)]
	}
	switch kind {
	case 1:
		return tableOf(r.Intn(3))
	case 2:
		return whereOf(impl.Test{Kind: 1 + r.Intn(2), Not: r.Intn(2) == 0, L: cell(), R: cell()}, somePlan(r, deep-1))
	case 3:
		return mapOf(somePlan(r, deep-1), slices.Repeat([]impl.Cell{cell(), cell()}, 1+r.Intn(2))...)
	case 4:
		return joinOf(place(), place(), somePlan(r, deep-1), somePlan(r, deep-1))
	case 5:
		return bothOf(somePlan(r, deep-1), somePlan(r, deep-1))
	case 6:
		return onceOf(somePlan(r, deep-1))
	}
	return groupOf([][]int{nil, {0}, {1}, {1, 0}, {0, 2}}[r.Intn(5)], r.Intn(4), place(), somePlan(r, deep-1))
}

func TestMeanOfManyPlans(t *testing.T) {
	lists := someItems()
	r := rand.New(rand.NewSource(9))
	told, kinds := 0, map[int]int{}
	for range 30000 {
		p := somePlan(r, 1+r.Intn(4))
		var tables [][]impl.Item
		for range 1 + r.Intn(4)%3 + r.Intn(2) {
			tables = append(tables, lists[r.Intn(len(lists))])
		}
		got, ok := impl.MeanOf(p, tables)
		want, wantOk := meanByForm(p, tables)
		wantTold(t, fmt.Sprint(p, tables), got, ok, want, wantOk)
		if ok && len(got) > 0 {
			told, kinds[p.Kind] = told+1, kinds[p.Kind]+1
		}
	}
	if told < 3000 || len(kinds) != 7 {
		t.Error("too few plans were told:", told, kinds)
	}
}

// meanCalls is each function of what is meant, called with two lists, by name.
func meanCalls(t *testing.T) map[string]func(a, b []impl.Item) ([]impl.Item, bool) {
	calls := map[string]func(a, b []impl.Item) ([]impl.Item, bool){
		"WhereOf": func(a, b []impl.Item) ([]impl.Item, bool) { return impl.WhereOf(a, less(num(0), num(1))) },
		"MapOf":   func(a, b []impl.Item) ([]impl.Item, bool) { return impl.MapOf(a, []impl.Cell{num(1), col(0)}) },
		"JoinOf":  func(a, b []impl.Item) ([]impl.Item, bool) { return impl.JoinOf(a, b, 0, 0) },
		"GroupOf": func(a, b []impl.Item) ([]impl.Item, bool) { return impl.GroupOf(a, []int{0}, 1, 0) },
	}
	for _, text := range []string{"t0", "t1", "once t0", "both t0 t0", "both t0 t1", "where #0<#1 t0", "map c0 t1", "join 0 0 t0 t0", "join 0 0 t0 t1", "group - most 0 t0", "group 0 count 0 t1", "once where c0<#2 both t0 t1"} {
		p := planRead(t, text)
		calls[text] = func(a, b []impl.Item) ([]impl.Item, bool) { return impl.MeanOf(p, [][]impl.Item{a, b}) }
	}
	return calls
}

func TestMeanIsNewMemory(t *testing.T) {
	lists := [][]impl.Item{nil, read(t, "1*1 1,2,3*-2 3*5"), many(1, 3, -1), many(0, 40, 2), wrongItems()["not in order"]}
	for name, call := range meanCalls(t) {
		for _, a := range lists {
			for _, b := range lists {
				x, y := roomy(a), roomy(b)
				wasX, wasY := allOf(x), allOf(y)
				got, _ := call(x, y)
				again, _ := call(x, y)
				want := copied(again)
				spoil(got)
				if !sameItems(allOf(x), wasX) || !sameItems(allOf(y), wasY) || !sameItems(again, want) {
					t.Fatalf("%s of %v and %v shares memory, or changes it", name, a, b)
				}
			}
		}
	}
}

// TestMeanRowsAreApart writes into one row of an answer, behind its end too, and looks at the others.
func TestMeanRowsAreApart(t *testing.T) {
	a, b := read(t, "1*1 1,2,3*2 2,2*4 3*5"), read(t, "1*2 1,2*3 2,3,3*1 3,3*-1")
	for name, call := range meanCalls(t) {
		z, ok := call(a, b)
		if !ok || len(z) == 0 {
			t.Fatal(name, z, ok)
		}
		for at := range z {
			was := copied(z)
			spoilRow(z[at].Row)
			for i := range z {
				if i != at && !slices.Equal(z[i].Row, was[i].Row) {
					t.Errorf("%s: the rows at %d and %d share memory", name, at, i)
				}
			}
			z[at].Row = was[at].Row
		}
	}
}

func TestMeanChangesNoPlan(t *testing.T) {
	cells := []impl.Cell{col(0), num(2), col(7), col(8)}
	keys := []int{1, 0, 7, 8}
	z := read(t, "1,2*1 2,1*1")
	impl.MapOf(z, cells[:2])
	impl.GroupOf(z, keys[:2], 3, 0)
	if !slices.Equal(cells, []impl.Cell{col(0), num(2), col(7), col(8)}) || !slices.Equal(keys, []int{1, 0, 7, 8}) {
		t.Error(cells, keys)
	}
	for text, plain := range plainPlans() {
		p := roomyPlan(plain)
		was := roomShown(p)
		tables := append(meanTables(t), many(71, 2, 1))
		impl.MeanOf(p, tables[:3])
		if roomShown(p) != was || !sameItems(tables[3], many(71, 2, 1)) {
			t.Errorf("%q was changed", text)
		}
		got, _ := impl.MeanOf(p, tables[:3])
		want := copied(got)
		spoilPlan(p)
		if !sameItems(got, want) {
			t.Errorf("what %q means hangs on its memory", text)
		}
	}
}
