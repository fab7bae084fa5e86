package tests

import (
	"math"
	"regexp"
	"slices"
	"sort"
	"strconv"
	"strings"
	"testing"

	"loop.example/milldam/impl"
)

// rowForm is how a row's text looks, said apart from the program; how many cells and how great is for rowByForm.
var rowForm = regexp.MustCompile(`^(0|-?[1-9][0-9]*)(,(0|-?[1-9][0-9]*))*$`)

func rowByForm(text string) ([]int, bool) {
	if !rowForm.MatchString(text) {
		return nil, false
	}
	words := strings.Split(text, ",")
	if len(words) > 6 {
		return nil, false
	}
	var row []int
	for _, w := range words {
		n, err := strconv.Atoi(w)
		if err != nil || n < -1000000000 || n > 1000000000 {
			return nil, false
		}
		row = append(row, n)
	}
	return row, true
}

func wantRead(t *testing.T, text string) {
	t.Helper()
	want, wantOk := rowByForm(text)
	got, ok := impl.RowRead(text)
	if ok != wantOk || !slices.Equal(got, want) {
		t.Errorf("RowRead(%q) = %v, %v; want %v, %v", text, got, ok, want, wantOk)
	}
}

// smallRows is all lists of up to 3 cells of a few numbers, those of none and of the bounds among them.
func smallRows() [][]int {
	numbers := []int{math.MinInt, -1000000000, -10, -1, 0, 1, 9, 10, 1000000000, math.MaxInt}
	rows := [][]int{nil}
	for first := 0; len(rows[first]) < 3; first++ {
		for _, n := range numbers {
			rows = append(rows, append(slices.Clone(rows[first]), n))
		}
	}
	return rows
}

func TestRowBounds(t *testing.T) {
	if impl.RowWide != 6 || impl.RowMost != 1000000000 {
		t.Fatal(impl.RowWide, impl.RowMost)
	}
	for wide := range 20 {
		if got, want := impl.RowOk(make([]int, wide)), 1 <= wide && wide <= 6; got != want {
			t.Errorf("RowOk of %d cells = %v", wide, got)
		}
	}
	if impl.RowOk(nil) {
		t.Error("no cells are a row")
	}
	for n, want := range map[int]bool{
		-1000000000: true, 1000000000: true, 0: true, -1: true,
		-1000000001: false, 1000000001: false, math.MinInt: false, math.MaxInt: false,
	} {
		for at := range 6 {
			r := make([]int, 6)
			r[at] = n
			if impl.RowOk(r) != want || impl.RowOk(r[:at+1]) != want {
				t.Errorf("RowOk with %d at %d is not %v", n, at, want)
			}
		}
	}
}

func TestRowSame(t *testing.T) {
	for _, a := range smallRows() {
		for _, b := range smallRows() {
			if impl.RowSame(a, b) != slices.Equal(a, b) {
				t.Fatalf("RowSame(%v, %v)", a, b)
			}
		}
	}
	if !impl.RowSame(nil, []int{}) {
		t.Error("the nil list is not the empty list")
	}
}

func TestRowOrder(t *testing.T) {
	inOrder := [][]int{
		{}, {-1000000000}, {-10}, {-9}, {-9, -1}, {-9, 0}, {-1}, {0}, {0, -1}, {0, 0}, {0, 0, -5}, {0, 1},
		{1}, {1, -2}, {1, -2, 0}, {1, -1}, {2}, {9, 9, 9, 9, 9, 9}, {10}, {1000000000},
	}
	for i, a := range inOrder {
		for j, b := range inOrder {
			if impl.RowLess(a, b) != (i < j) {
				t.Errorf("RowLess(%v, %v) = %v", a, b, i >= j)
			}
		}
	}
}

func TestRowOrderIsOne(t *testing.T) {
	rows := smallRows()
	sort.Slice(rows, func(i, j int) bool { return slices.Compare(rows[i], rows[j]) < 0 })
	for i, a := range rows {
		for j, b := range rows {
			if impl.RowLess(a, b) != (i < j) || impl.RowSame(a, b) != (i == j) {
				t.Fatalf("%v and %v are not in the one order", a, b)
			}
		}
	}
}

func TestRowText(t *testing.T) {
	for _, c := range []struct {
		row  []int
		want string
	}{
		{nil, ""},
		{[]int{}, ""},
		{[]int{0}, "0"},
		{[]int{-1}, "-1"},
		{[]int{1, -2, 0}, "1,-2,0"},
		{[]int{100, -1000}, "100,-1000"},
		{[]int{-1000000000, 1000000000, 0, 1, -1, 7}, "-1000000000,1000000000,0,1,-1,7"},
		{[]int{1, 2, 3, 4, 5, 6, 7}, "1,2,3,4,5,6,7"},
		{[]int{1000000001}, "1000000001"},
		{[]int{math.MinInt64, math.MaxInt64}, "-9223372036854775808,9223372036854775807"},
	} {
		if got := impl.RowText(c.row); got != c.want {
			t.Errorf("RowText(%v) = %q; want %q", c.row, got, c.want)
		}
	}
}

func TestRowIsReadFromItsText(t *testing.T) {
	rows := smallRows()
	for wide := range 9 {
		for _, n := range []int{-1000000001, -1000000000, -1, 0, 1, 1000000000, 1000000001} {
			rows = append(rows, slices.Repeat([]int{n}, wide))
		}
	}
	read := 0
	for _, r := range rows {
		got, ok := impl.RowRead(impl.RowText(r))
		if ok != impl.RowOk(r) || ok && !slices.Equal(got, r) || !ok && len(got) > 0 {
			t.Errorf("%v is read as %v, %v", r, got, ok)
		}
		if ok {
			read++
		}
	}
	if read < 100 {
		t.Errorf("only %d rows were read", read)
	}
}

func TestRowReadGood(t *testing.T) {
	for text, want := range map[string][]int{
		"0":           {0},
		"-7":          {-7},
		"1,-2,0":      {1, -2, 0},
		"10,20,-30":   {10, 20, -30},
		"1000000000":  {1000000000},
		"-1000000000": {-1000000000},
		"1,2,3,4,5,6": {1, 2, 3, 4, 5, 6},
		"-1000000000,-1000000000,-1000000000,-1000000000,-1000000000,-1000000000": slices.Repeat([]int{-1000000000}, 6),
	} {
		if got, ok := impl.RowRead(text); !ok || !slices.Equal(got, want) {
			t.Errorf("RowRead(%q) = %v, %v", text, got, ok)
		}
	}
}

func TestRowReadWrong(t *testing.T) {
	wrong := []string{
		"", ",", ",1", "1,", "1,,2", ",,", "1,2,3,4,5,6,", "1,2,3,4,5,6,7", ",1,2,3,4,5,6",
		"00", "01", "-01", "1,02", "-0", "0,-0", "+1", "1,+2", "+0", "-", "--1", "-,1", "1-", "1-2", "1,-", "-+1",
		" ", " 1", "1 ", "1 ,2", "1, 2", "- 1", "\t1", "1\n", "\n",
		"a", "1a", "0x1", "1e3", "1_0", "1.0", "1;2", "1*1", "\x001", "1\x00", "'1'",
		"1000000001", "-1000000001", "1,1000000001", "-1000000001,1", "10000000000", "9223372036854775808",
		"18446744073709551617", "4294967297", "-18446744073709551615", "1,18446744073709551617",
		"\xff", "1\xff", "\xff1", "1,\xff,2", "1\xc3", "\xe2\x82", "1\xed\xa0\x80", "\ufffd", "1\ufffd", "\ufeff1",
		"\u0661", "\uff11", "1\uff0c2", "\u22121", "1\u00a0", "\U0001d7cf",
		strings.Repeat("9", 100), strings.Repeat("0", 100), "-" + strings.Repeat("0", 98) + "1",
		strings.Repeat("0", 100) + "1", "1" + strings.Repeat(" ", 100), "1" + strings.Repeat(",1", 50),
		strings.Repeat("-", 101), strings.Repeat("9", 101), strings.Repeat("1,", 50000),
		"-1000000000,-1000000000,-1000000000,-1000000000,-1000000000,-1000000000,-1000000000,-1000000000,-1000",
	}
	for _, text := range wrong {
		if got, ok := impl.RowRead(text); ok || len(got) > 0 {
			t.Errorf("RowRead(%q) = %v, %v", text, got, ok)
		}
	}
}

// TestRowReadEveryShortText holds the program against rowForm at all texts of up to 6 of the signs that matter.
func TestRowReadEveryShortText(t *testing.T) {
	texts := []string{""}
	for first := 0; first < len(texts); first++ {
		wantRead(t, texts[first])
		if len(texts[first]) == 6 {
			continue
		}
		for _, sign := range []string{"0", "1", "9", "-", ",", "+", " ", "\xff"} {
			texts = append(texts, texts[first]+sign)
		}
	}
}

// TestRowReadOneByteOff changes, adds and takes away every byte of good texts.
func TestRowReadOneByteOff(t *testing.T) {
	for _, good := range []string{"0", "-5,10", "1,-2,0", "-1000000000,1000000000,999999999", "1,2,3,4,5,6"} {
		wantRead(t, good)
		for at := range len(good) + 1 {
			for b := range 256 {
				wantRead(t, good[:at]+string([]byte{byte(b)})+good[at:])
				if at < len(good) {
					wantRead(t, good[:at]+string([]byte{byte(b)})+good[at+1:])
				}
			}
			if at < len(good) {
				wantRead(t, good[:at]+good[at+1:])
			}
		}
	}
}

func TestRowJoin(t *testing.T) {
	for _, c := range []struct{ a, b, want []int }{
		{nil, nil, nil},
		{[]int{1}, nil, []int{1}},
		{nil, []int{-1, 2}, []int{-1, 2}},
		{[]int{1, -2, 0}, []int{7}, []int{1, -2, 0, 7}},
		{[]int{7}, []int{1, -2, 0}, []int{7, 1, -2, 0}},
		{[]int{1, 2, 3, 4, 5, 6}, []int{1000000001, 8}, []int{1, 2, 3, 4, 5, 6, 1000000001, 8}},
	} {
		if got := impl.RowJoin(c.a, c.b); !slices.Equal(got, c.want) {
			t.Errorf("RowJoin(%v, %v) = %v", c.a, c.b, got)
		}
	}
}

// TestRowJoinIsNewMemory writes into all that an answer can reach, and looks at the arguments and behind their ends.
func TestRowJoinIsNewMemory(t *testing.T) {
	for _, lens := range [][2]int{{0, 0}, {0, 3}, {3, 0}, {2, 1}, {4, 4}} {
		a, b := make([]int, 8), make([]int, 8)
		for i := range a {
			a[i], b[i] = 10+i, 20+i
		}
		wasA, wasB := slices.Clone(a), slices.Clone(b)
		got := impl.RowJoin(a[:lens[0]], b[:lens[1]])
		again := impl.RowJoin(a[:lens[0]], b[:lens[1]])
		want := slices.Clone(again)
		for i := range got[:cap(got)] {
			got[:cap(got)][i] = -99
		}
		if !slices.Equal(a, wasA) || !slices.Equal(b, wasB) || !slices.Equal(again, want) {
			t.Errorf("lengths %v: %v %v %v", lens, a, b, again)
		}
	}
}

func TestRowReadIsNewMemory(t *testing.T) {
	one, _ := impl.RowRead("1,2,3")
	other, _ := impl.RowRead("1,2,3")
	for i := range one[:cap(one)] {
		one[:cap(one)][i] = -99
	}
	third, ok := impl.RowRead("1,2,3")
	if !ok || !slices.Equal(other, []int{1, 2, 3}) || !slices.Equal(third, []int{1, 2, 3}) {
		t.Error(other, third)
	}
}

func TestRowsAreNotChanged(t *testing.T) {
	a, b := []int{3, -1, 2, 50, 60}, []int{3, -1, 7, 70, 80}
	wasA, wasB := slices.Clone(a), slices.Clone(b)
	impl.RowOk(a[:3])
	impl.RowSame(a[:3], b[:3])
	impl.RowLess(a[:3], b[:3])
	impl.RowText(a[:3])
	if !slices.Equal(a, wasA) || !slices.Equal(b, wasB) {
		t.Error(a, b)
	}
}
