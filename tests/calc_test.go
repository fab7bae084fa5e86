package tests

import (
	"math"
	"regexp"
	"slices"
	"strconv"
	"strings"
	"testing"

	"loop.example/milldam/impl"
)

func col(a int) impl.Cell          { return impl.Cell{Kind: 1, A: a} }
func num(n int) impl.Cell          { return impl.Cell{Kind: 2, N: n} }
func sumOf(a int, b int) impl.Cell { return impl.Cell{Kind: 3, A: a, B: b} }

// cellForm and testForm are how texts look, said apart from the program; how great a number may be is for cellByForm.
var (
	cellForm = regexp.MustCompile(`^(?:c([0-5])|#(0|-?[1-9][0-9]{0,9})|c([0-5])\+c([0-5]))$`)
	testForm = regexp.MustCompile(`^(!?)([^<=!]+)([<=])([^<=!]+)$`)
)

func cellByForm(text string) (impl.Cell, bool) {
	m := cellForm.FindStringSubmatch(text)
	if m == nil {
		return impl.Cell{}, false
	}
	var n [5]int
	for i, part := range m {
		n[i], _ = strconv.Atoi(part)
	}
	switch {
	case m[1] != "":
		return col(n[1]), true
	case m[3] != "":
		return sumOf(n[3], n[4]), true
	case n[2] < -1000000000 || n[2] > 1000000000:
		return impl.Cell{}, false
	}
	return num(n[2]), true
}

func testByForm(text string) (impl.Test, bool) {
	m := testForm.FindStringSubmatch(text)
	if m == nil {
		return impl.Test{}, false
	}
	l, okL := cellByForm(m[2])
	r, okR := cellByForm(m[4])
	if !okL || !okR {
		return impl.Test{}, false
	}
	return impl.Test{Kind: 1 + strings.Index("<=", m[3]), Not: m[1] == "!", L: l, R: r}, true
}

// cellOkByForm is what is ok, said apart from the program.
func cellOkByForm(c impl.Cell, wide int) bool {
	in := func(at int) bool { return at >= 0 && at < wide && at < 6 }
	switch c.Kind {
	case 1:
		return in(c.A) && c.B == 0 && c.N == 0
	case 2:
		return c.A == 0 && c.B == 0 && c.N >= -1000000000 && c.N <= 1000000000
	case 3:
		return in(c.A) && in(c.B) && c.N == 0
	}
	return false
}

func cellOfByForm(c impl.Cell, r []int) (int, bool) {
	if !rowOkByForm(r) || !cellOkByForm(c, len(r)) {
		return 0, false
	}
	n := map[int]int{1: r[c.A], 2: c.N, 3: r[c.A] + r[c.B]}[c.Kind]
	if n < -1000000000 || n > 1000000000 {
		return 0, false
	}
	return n, true
}

func rowOkByForm(r []int) bool {
	return len(r) >= 1 && len(r) <= 6 && slices.Min(r) >= -1000000000 && slices.Max(r) <= 1000000000
}

func testOkByForm(x impl.Test, wide int) bool {
	return (x.Kind == 1 || x.Kind == 2) && cellOkByForm(x.L, wide) && cellOkByForm(x.R, wide)
}

func testOfByForm(x impl.Test, r []int) (bool, bool) {
	left, okL := cellOfByForm(x.L, r)
	right, okR := cellOfByForm(x.R, r)
	if !okL || !okR || x.Kind != 1 && x.Kind != 2 {
		return false, false
	}
	so := x.Kind == 1 && left < right || x.Kind == 2 && left == right
	return so != x.Not, true
}

// allCells is every mix of kinds, places and numbers at and past the bounds, most of them wrong for one reason or more.
func allCells() []impl.Cell {
	var cells []impl.Cell
	places := []int{math.MinInt, -1, 0, 1, 4, 5, 6, 7, math.MaxInt}
	numbers := []int{math.MinInt, -1000000001, -1000000000, -1, 0, 1, 1000000000, 1000000001, math.MaxInt}
	for _, kind := range []int{math.MinInt, -1, 0, 1, 2, 3, 4, math.MaxInt} {
		for _, a := range places {
			for _, b := range places {
				for _, n := range numbers {
					cells = append(cells, impl.Cell{Kind: kind, A: a, B: b, N: n})
				}
			}
		}
	}
	return cells
}

// goodCells is every cell that is ok for rows of 6 cells, with some of the numbers.
func goodCells() []impl.Cell {
	var cells []impl.Cell
	for _, n := range []int{-1000000000, -999999999, -10, -1, 0, 1, 7, 10, 100, 1000000000} {
		cells = append(cells, num(n))
	}
	for a := range 6 {
		cells = append(cells, col(a))
		for b := range 6 {
			cells = append(cells, sumOf(a, b))
		}
	}
	return cells
}

// wrongCells is cells that are ok for no rows, each for one reason.
func wrongCells() map[string]impl.Cell {
	return map[string]impl.Cell{
		"nothing":           {},
		"a kind of 4":       {Kind: 4},
		"a kind of -1":      {Kind: -1},
		"a kind of 0":       {N: 1},
		"cell -1":           col(-1),
		"cell 6":            col(6),
		"the least cell":    col(math.MinInt),
		"the greatest cell": col(math.MaxInt),
		"a cell with B":     {Kind: 1, A: 1, B: 1},
		"a cell with N":     {Kind: 1, A: 1, N: 1},
		"number too great":  num(1000000001),
		"number too small":  num(-1000000001),
		"the least number":  num(math.MinInt),
		"a number with A":   {Kind: 2, A: 1, N: 5},
		"a number with B":   {Kind: 2, B: 1, N: 5},
		"A of -1":           sumOf(-1, 0),
		"A of 6":            sumOf(6, 0),
		"B of -1":           sumOf(0, -1),
		"B of 6":            sumOf(0, 6),
		"a sum with N":      {Kind: 3, A: 0, B: 1, N: 1},
		"a sum, N below 0":  {Kind: 3, A: 0, B: 1, N: -1},
	}
}

// wrongRows is rows that are not ok, of which all the same cells could be told.
func wrongRows() map[string][]int {
	return map[string][]int{
		"nil":          nil,
		"none":         {},
		"7 cells":      {1, 2, 3, 4, 5, 6, 7},
		"too great":    {1, 2, 1000000001},
		"too small":    {1, 2, -1000000001},
		"the greatest": {1, 2, math.MaxInt, math.MaxInt},
		"the least":    {math.MinInt, math.MinInt},
	}
}

func TestCalcKinds(t *testing.T) {
	if impl.CellCol != 1 || impl.CellNum != 2 || impl.CellSum != 3 || impl.TestLess != 1 || impl.TestSame != 2 {
		t.Error(impl.CellCol, impl.CellNum, impl.CellSum, impl.TestLess, impl.TestSame)
	}
}

func TestCellWidths(t *testing.T) {
	for wide := -2; wide <= 9; wide++ {
		for a := -2; a <= 9; a++ {
			want := a >= 0 && a < min(wide, 6)
			if impl.CellOk(col(a), wide) != want {
				t.Errorf("cell %d of %d: ok is not %v", a, wide, want)
			}
			for b := -2; b <= 9; b++ {
				want := want && b >= 0 && b < min(wide, 6)
				if impl.CellOk(sumOf(a, b), wide) != want {
					t.Errorf("cells %d and %d of %d: ok is not %v", a, b, wide, want)
				}
			}
		}
		for n, want := range map[int]bool{-1000000001: false, -1000000000: true, 0: true, 1000000000: true, 1000000001: false} {
			if impl.CellOk(num(n), wide) != want {
				t.Errorf("number %d of %d cells: ok is not %v", n, wide, want)
			}
		}
	}
	if !impl.CellOk(col(5), math.MaxInt) || impl.CellOk(col(6), math.MaxInt) || impl.CellOk(col(0), math.MinInt) {
		t.Error("the greatest and the least width")
	}
}

func TestCellOkOfAll(t *testing.T) {
	for _, c := range allCells() {
		for _, wide := range []int{math.MinInt, -1, 0, 1, 2, 5, 6, 7, math.MaxInt} {
			if got, want := impl.CellOk(c, wide), cellOkByForm(c, wide); got != want {
				t.Fatalf("CellOk(%v, %d) = %v", c, wide, got)
			}
		}
	}
}

func TestCellOfRow(t *testing.T) {
	six := []int{10, -20, 30, 0, 1000000000, -1000000000}
	for _, c := range []struct {
		cell impl.Cell
		row  []int
		want int
	}{
		{col(0), []int{7}, 7},
		{col(0), six, 10},
		{col(1), six, -20},
		{col(5), six, -1000000000},
		{num(3), []int{7}, 3},
		{num(-1000000000), six, -1000000000},
		{num(1000000000), six, 1000000000},
		{num(0), six, 0},
		{sumOf(0, 0), []int{7}, 14},
		{sumOf(0, 1), six, -10},
		{sumOf(1, 0), six, -10},
		{sumOf(2, 2), six, 60},
		{sumOf(4, 5), six, 0},
		{sumOf(4, 1), six, 999999980},
		{sumOf(5, 3), six, -1000000000},
	} {
		if got, ok := impl.CellOf(c.cell, c.row); !ok || got != c.want {
			t.Errorf("%v of %v is %d, %v; want %d", c.cell, c.row, got, ok, c.want)
		}
	}
}

func TestCellSumThatIsTooGreat(t *testing.T) {
	for _, c := range []struct {
		a, b int
		want bool
	}{
		{1000000000, 0, true},
		{1000000000, 1, false},
		{999999999, 1, true},
		{500000000, 500000000, true},
		{500000000, 500000001, false},
		{1000000000, 1000000000, false},
		{-1000000000, 0, true},
		{-1000000000, -1, false},
		{-999999999, -1, true},
		{-500000000, -500000000, true},
		{-500000001, -500000000, false},
		{-1000000000, -1000000000, false},
		{1000000000, -1000000000, true},
	} {
		want := 0
		if c.want {
			want = c.a + c.b
		}
		for _, cell := range []impl.Cell{sumOf(0, 2), sumOf(2, 0)} {
			if got, ok := impl.CellOf(cell, []int{c.a, 5, c.b}); ok != c.want || got != want {
				t.Errorf("%d and %d together are %d, %v", c.a, c.b, got, ok)
			}
		}
	}
	if got, ok := impl.CellOf(sumOf(0, 0), []int{500000001}); ok || got != 0 {
		t.Errorf("a cell with itself is %d, %v", got, ok)
	}
}

func TestCellThatIsNotThere(t *testing.T) {
	for wide := 1; wide <= 6; wide++ {
		row := []int{1, 2, 3, 4, 5, 6}[:wide]
		for at := range wide {
			if got, ok := impl.CellOf(col(at), row); !ok || got != at+1 {
				t.Errorf("cell %d of %v is %d, %v", at, row, got, ok)
			}
		}
		for _, at := range []int{-1, wide, wide + 1, 6, math.MinInt, math.MaxInt} {
			for _, c := range []impl.Cell{col(at), sumOf(at, 0), sumOf(0, at)} {
				if got, ok := impl.CellOf(c, row); ok || got != 0 {
					t.Errorf("%v of %v is %d, %v", c, row, got, ok)
				}
			}
		}
	}
}

func TestCellOfWrong(t *testing.T) {
	for name, c := range wrongCells() {
		for wide := 1; wide <= 6; wide++ {
			if got, ok := impl.CellOf(c, []int{1, 2, 3, 4, 5, 6}[:wide]); ok || got != 0 {
				t.Errorf("%s: %d, %v", name, got, ok)
			}
		}
	}
	for name, row := range wrongRows() {
		for _, c := range append(goodCells(), col(6)) {
			if got, ok := impl.CellOf(c, row); ok || got != 0 {
				t.Errorf("%v of a row, %s: %d, %v", c, name, got, ok)
			}
		}
	}
}

func TestCellOfAll(t *testing.T) {
	rows := [][]int{{0}, {-7}, {1000000000}, {1, -1}, {1000000000, 1, -1000000000}, {1, 2, 3, 4, 5}, {9, 8, 7, 6, 5, -1000000000}}
	for _, row := range wrongRows() {
		rows = append(rows, row)
	}
	for _, c := range append(allCells(), goodCells()...) {
		for _, row := range rows {
			got, ok := impl.CellOf(c, row)
			if want, wantOk := cellOfByForm(c, row); ok != wantOk || got != want {
				t.Fatalf("%v of %v is %d, %v; want %d, %v", c, row, got, ok, want, wantOk)
			}
		}
	}
}

func TestCellText(t *testing.T) {
	for want, c := range map[string]impl.Cell{
		"c0": col(0), "c5": col(5), "#0": num(0), "#7": num(7), "#-7": num(-7), "#100": num(100),
		"#1000000000": num(1000000000), "#-1000000000": num(-1000000000),
		"c0+c0": sumOf(0, 0), "c0+c5": sumOf(0, 5), "c5+c0": sumOf(5, 0), "c2+c1": sumOf(2, 1),
	} {
		if got := impl.CellText(c); got != want {
			t.Errorf("%v is %q; want %q", c, got, want)
		}
		if got, ok := impl.CellRead(want); !ok || got != c {
			t.Errorf("%q is read as %v, %v", want, got, ok)
		}
	}
	for name, c := range wrongCells() {
		if got := impl.CellText(c); got != "" {
			t.Errorf("%s: %q", name, got)
		}
	}
}

// TestCellIsReadFromItsText asks it of all that is ok, and that no two have one text.
func TestCellIsReadFromItsText(t *testing.T) {
	texts := map[string]impl.Cell{}
	for _, c := range append(goodCells(), allCells()...) {
		text := impl.CellText(c)
		if !cellOkByForm(c, 6) {
			if text != "" {
				t.Fatalf("%v is not ok, and its text is %q", c, text)
			}
			continue
		}
		if got, ok := impl.CellRead(text); !ok || got != c {
			t.Fatalf("%v, of the text %q, is read as %v, %v", c, text, got, ok)
		}
		if other, is := texts[text]; is && other != c {
			t.Fatalf("%v and %v are both %q", c, other, text)
		}
		texts[text] = c
	}
	if len(texts) < 50 {
		t.Errorf("only %d texts", len(texts))
	}
}

// wrongCellTexts is texts of no cell; each is also wrong as a side of a test.
func wrongCellTexts() []string {
	return []string{
		"", "c", "#", "+", "-", "0", "1", "-1", "c+", "c+c", "+c0", "c0+", "c0+c", "c+c0", "c0+c1+c2", "c0++c1", "c0c1", "c0,c1", "c0-c1",
		"c00", "c01", "c05", "c-0", "c+1", "c-1", "c6", "c7", "c10", "c0+c6", "c6+c0", "c0+c-1", "c-1+c0", "c0+c01", "c00+c0", "c0+c+1",
		"#00", "#01", "#-0", "#-01", "#+1", "#+0", "#--1", "#-", "#+", "#1-", "#1.0", "#1e3", "#0x1", "#1_0", "#c0", "##1", "#a", "#1,2",
		"#1000000001", "#-1000000001", "#10000000000", "#9223372036854775807", "#9223372036854775808", "#-9223372036854775808", "#-9223372036854775809", "#18446744073709551617", "#4294967297",
		"c18446744073709551616", "c4294967296", "c0+c18446744073709551617",
		"c0+#1", "#1+c0", "#1+#1", "0+c0", "c0+0", "C0", "cc0", "ca",
		" ", " c0", "c0 ", "c 0", "c0 +c1", "c0+ c1", "# 1", "#1 ", " #1", "#- 1", "\tc0", "c0\n", "#1\n", "c0\x00",
		"c0!", "#1!", "(c0)", "c0*1",
		"\xff", "c\xff", "\xffc0", "c0\xff", "#\xff", "#1\xff", "c0+\xff", "c0\xff+c1", "#\xe2\x82", "\xc3c0", "c0\xed\xa0\x80",
		"\ufffd", "c\u0660", "#\uff11", "\uff03" + "1", "\u0441" + "0", "c0\uff0bc1", "#\u22121", "\ufeffc0",
		strings.Repeat("c", 100000), strings.Repeat("c0+", 100000), "c" + strings.Repeat("0", 100000), "#" + strings.Repeat("9", 100000),
		"#" + strings.Repeat("0", 100000) + "1", "#-" + strings.Repeat("0", 100000), "c0" + strings.Repeat(" ", 100000), strings.Repeat("#", 100000),
	}
}

func TestCellReadWrong(t *testing.T) {
	for _, text := range append(wrongCellTexts(), "c0<c1", "c0=c1", "!c0", "c0<", "=c0", "!c0<c1") {
		if got, ok := impl.CellRead(text); ok || got != (impl.Cell{}) {
			t.Errorf("%.40q (%d bytes) is %v, %v", text, len(text), got, ok)
		}
	}
}

func TestTestOfRow(t *testing.T) {
	six := []int{10, -20, 30, 0, 1000000000, -1000000000}
	for _, c := range []struct {
		l, r       impl.Cell
		row        []int
		less, same bool
	}{
		{col(0), col(0), []int{7}, false, true},
		{col(0), num(7), []int{7}, false, true},
		{col(0), num(8), []int{7}, true, false},
		{col(0), num(6), []int{7}, false, false},
		{col(0), num(-7), []int{7}, false, false},
		{num(-7), col(0), []int{7}, true, false},
		{sumOf(0, 0), num(14), []int{7}, false, true},
		{col(1), col(0), six, true, false},
		{col(0), col(1), six, false, false},
		{col(5), col(4), six, true, false},
		{col(5), num(-1000000000), six, false, true},
		{col(5), num(-999999999), six, true, false},
		{num(1000000000), col(4), six, false, true},
		{sumOf(0, 1), num(-10), six, false, true},
		{sumOf(0, 1), sumOf(4, 5), six, true, false},
		{sumOf(4, 5), sumOf(3, 3), six, false, true},
		{num(1), num(2), six, true, false},
		{num(2), num(1), []int{5}, false, false},
	} {
		for kind, so := range map[int]bool{impl.TestLess: c.less, impl.TestSame: c.same} {
			for _, not := range []bool{false, true} {
				x := impl.Test{Kind: kind, Not: not, L: c.l, R: c.r}
				if got, ok := impl.TestOf(x, c.row); !ok || got != (so != not) {
					t.Errorf("%v of %v is %v, %v", x, c.row, got, ok)
				}
			}
		}
	}
}

// wantNotAsked asks a test of a row in both kinds, with Not and without: none can be reckoned.
func wantNotAsked(t *testing.T, why string, l impl.Cell, r impl.Cell, row []int) {
	t.Helper()
	for _, kind := range []int{impl.TestLess, impl.TestSame} {
		for _, not := range []bool{false, true} {
			if got, ok := impl.TestOf(impl.Test{Kind: kind, Not: not, L: l, R: r}, row); ok || got {
				t.Errorf("%s: %v and %v of %v (kind %d, not %v): %v, %v", why, l, r, row, kind, not, got, ok)
			}
		}
	}
}

func TestTestOfWrong(t *testing.T) {
	row := []int{1000000000, -1000000000, 3}
	for name, c := range wrongCells() {
		wantNotAsked(t, name, c, num(1), row)
		wantNotAsked(t, name, col(0), c, row)
		wantNotAsked(t, name, c, c, row)
	}
	for _, c := range []impl.Cell{col(3), sumOf(0, 3), sumOf(3, 0), sumOf(0, 0), sumOf(1, 1), sumOf(0, 2)} {
		wantNotAsked(t, "a side that can not be reckoned", c, num(1), row)
		wantNotAsked(t, "a side that can not be reckoned", num(1), c, row)
		wantNotAsked(t, "a side that can not be reckoned", c, c, row)
	}
	for name, wrong := range wrongRows() {
		wantNotAsked(t, name, num(1), num(2), wrong)
		wantNotAsked(t, name, col(0), num(2), wrong)
		wantNotAsked(t, name, col(0), sumOf(1, 1), wrong)
	}
	for _, kind := range []int{math.MinInt, -1, 0, 3, 4, math.MaxInt} {
		for _, not := range []bool{false, true} {
			x := impl.Test{Kind: kind, Not: not, L: col(0), R: col(0)}
			if got, ok := impl.TestOf(x, row); ok || got || impl.TestOk(x, 3) || impl.TestText(x) != "" {
				t.Errorf("%v: %v, %v, %q", x, got, ok, impl.TestText(x))
			}
		}
	}
}

// allTests is tests of both kinds and of none, with sides of all sorts.
func allTests() []impl.Test {
	sides := goodCells()
	for _, c := range wrongCells() {
		sides = append(sides, c)
	}
	var tests []impl.Test
	for kind := -1; kind <= 4; kind++ {
		for _, l := range sides {
			for _, r := range sides {
				tests = append(tests, impl.Test{Kind: kind, L: l, R: r}, impl.Test{Kind: kind, Not: true, L: l, R: r})
			}
		}
	}
	return tests
}

func TestTestOkOfAll(t *testing.T) {
	for _, x := range allTests() {
		for _, wide := range []int{math.MinInt, -1, 0, 1, 2, 5, 6, 7, math.MaxInt} {
			if got, want := impl.TestOk(x, wide), testOkByForm(x, wide); got != want {
				t.Fatalf("TestOk(%v, %d) = %v", x, wide, got)
			}
		}
	}
}

func TestTestOfAll(t *testing.T) {
	rows := [][]int{{0}, {-7}, {1000000000}, {1, -1}, {1000000000, 1, -1000000000}, {3, 2, 1, 2, 3}, {9, 8, 7, 6, 5, -1000000000}}
	for _, row := range wrongRows() {
		rows = append(rows, row)
	}
	for _, x := range allTests() {
		for _, row := range rows {
			got, ok := impl.TestOf(x, row)
			if want, wantOk := testOfByForm(x, row); ok != wantOk || got != want {
				t.Fatalf("%v of %v is %v, %v; want %v, %v", x, row, got, ok, want, wantOk)
			}
		}
	}
}

func TestTestText(t *testing.T) {
	for want, x := range map[string]impl.Test{
		"c0<c1":                     {Kind: 1, L: col(0), R: col(1)},
		"!c0<c1":                    {Kind: 1, Not: true, L: col(0), R: col(1)},
		"c0=c1":                     {Kind: 2, L: col(0), R: col(1)},
		"!c5=#-1":                   {Kind: 2, Not: true, L: col(5), R: num(-1)},
		"#-1<#-2":                   {Kind: 1, L: num(-1), R: num(-2)},
		"c0+c5=c5+c0":               {Kind: 2, L: sumOf(0, 5), R: sumOf(5, 0)},
		"!#-1000000000=#1000000000": {Kind: 2, Not: true, L: num(-1000000000), R: num(1000000000)},
	} {
		if got := impl.TestText(x); got != want {
			t.Errorf("%v is %q; want %q", x, got, want)
		}
		if got, ok := impl.TestRead(want); !ok || got != x {
			t.Errorf("%q is read as %v, %v", want, got, ok)
		}
	}
}

// TestTestIsReadFromItsText asks it of all that is ok, and that no two have one text.
func TestTestIsReadFromItsText(t *testing.T) {
	texts := map[string]impl.Test{}
	for _, x := range allTests() {
		text := impl.TestText(x)
		if !testOkByForm(x, 6) {
			if text != "" {
				t.Fatalf("%v is not ok, and its text is %q", x, text)
			}
			continue
		}
		if got, ok := impl.TestRead(text); !ok || got != x {
			t.Fatalf("%v, of the text %q, is read as %v, %v", x, text, got, ok)
		}
		if other, is := texts[text]; is && other != x {
			t.Fatalf("%v and %v are both %q", x, other, text)
		}
		texts[text] = x
	}
	if len(texts) < 5000 {
		t.Errorf("only %d texts", len(texts))
	}
}

func TestTestReadWrong(t *testing.T) {
	wrong := []string{
		"!", "!!", "<", "=", "!<", "!=", "<=", "c0", "!c0", "#1", "c0+c1", "c0c1",
		"!!c0<c1", "!!!c0<c1", "c0!<c1", "c0<!c1", "c0!=c1", "c0<c1!", " !c0<c1", "! c0<c1", "c0<c1 ", "c0 <c1", "c0< c1", " c0<c1", "c0<c1\n",
		"c0<<c1", "c0==c1", "c0<=c1", "c0=<c1", "c0>c1", "c0<>c1", "c0<c1<c2", "c0=c1=c2", "c0<c1=c2", "c0=c1<c2", "c0<c1c2", "c0<c1,c2",
		"<c0", "c0<", "=c0", "c0=", "c0<=", "<=c0", "<c0<c1", "c0<c1<", "=c0=c1", "c0=c1=", "!c0<", "!<c0",
		"c0<c1+", "c0+<c1", "c0<+c1", "+c0<c1", "c0<c1-", "c0-<c1", "c0<c1#", "c0<c1c", "c0<c1<=", "c0<c1!!",
		"c0\uff1cc1", "c0\xff<c1", "c0<\xff", "\xff<c0", "c0\xffc1", "\xff!c0<c1", "!\xffc0<c1", "c0<c1\xc3",
		strings.Repeat("!", 100000), strings.Repeat("<", 100000), strings.Repeat("!", 100000) + "c0<c1", strings.Repeat("c0<", 100000) + "c0",
		"c0<c1" + strings.Repeat(" ", 100000), "c0" + strings.Repeat("<", 100000) + "c1", strings.Repeat("c0<c1", 100000),
	}
	for _, side := range wrongCellTexts() {
		for _, sign := range []string{"<", "="} {
			wrong = append(wrong, side, side+sign+"c0", "c0"+sign+side, "!"+side+sign+"#1", "!#1"+sign+side, side+sign+side)
		}
	}
	for _, text := range wrong {
		if got, ok := impl.TestRead(text); ok || got != (impl.Test{}) {
			t.Errorf("%.40q (%d bytes) is %v, %v", text, len(text), got, ok)
		}
	}
}

func wantCalcRead(t *testing.T, text string) {
	t.Helper()
	wantCell, wantCellOk := cellByForm(text)
	if got, ok := impl.CellRead(text); ok != wantCellOk || got != wantCell {
		t.Fatalf("CellRead(%q) = %v, %v; want %v, %v", text, got, ok, wantCell, wantCellOk)
	}
	wantTest, wantTestOk := testByForm(text)
	if got, ok := impl.TestRead(text); ok != wantTestOk || got != wantTest {
		t.Fatalf("TestRead(%q) = %v, %v; want %v, %v", text, got, ok, wantTest, wantTestOk)
	}
}

// TestCalcReadEveryShortText holds the program against the forms at all texts of up to 5 of the signs that matter.
func TestCalcReadEveryShortText(t *testing.T) {
	texts := []string{""}
	for first := 0; first < len(texts); first++ {
		wantCalcRead(t, texts[first])
		if len(texts[first]) == 5 {
			continue
		}
		for _, sign := range []string{"c", "#", "0", "5", "6", "-", "+", "!", "<", "=", " "} {
			texts = append(texts, texts[first]+sign)
		}
	}
}

// TestCalcReadOneByteOff changes, adds and takes away every byte of good texts.
func TestCalcReadOneByteOff(t *testing.T) {
	for _, good := range []string{"c0", "#-7", "#1000000000", "#-1000000000", "c0+c5", "c1<#-2", "!c0=c1+c2", "!#-10<#999999999", "c5+c4=c0+c0"} {
		wantCalcRead(t, good)
		for at := range len(good) + 1 {
			for b := range 256 {
				wantCalcRead(t, good[:at]+string([]byte{byte(b)})+good[at:])
				if at < len(good) {
					wantCalcRead(t, good[:at]+string([]byte{byte(b)})+good[at+1:])
				}
			}
			if at < len(good) {
				wantCalcRead(t, good[:at]+good[at+1:])
			}
		}
	}
}

// TestCalcRowsAreNotChanged looks behind the row's end too: no cell there is one of the row.
func TestCalcRowsAreNotChanged(t *testing.T) {
	row := []int{4, 5, 6, 7}
	for _, c := range goodCells() {
		got, ok := impl.CellOf(c, row[:2])
		if want, wantOk := cellOfByForm(c, []int{4, 5}); got != want || ok != wantOk {
			t.Errorf("%v is %d, %v", c, got, ok)
		}
		impl.TestOf(impl.Test{Kind: impl.TestLess, L: c, R: c}, row[:2])
	}
	if !slices.Equal(row, []int{4, 5, 6, 7}) {
		t.Error(row)
	}
}
