package tests

import (
	"math"
	"slices"
	"strconv"
	"strings"
	"testing"

	"loop.example/milldam/impl"
)

// items is a short way to write items: a row's text and its weight, in turn.
func items(t *testing.T, parts ...any) []impl.Item {
	t.Helper()
	var z []impl.Item
	for i := 0; i < len(parts); i += 2 {
		row, ok := rowByForm(parts[i].(string))
		if !ok {
			t.Fatalf("%q is no row", parts[i])
		}
		z = append(z, impl.Item{Row: row, W: parts[i+1].(int)})
	}
	return z
}

// many is items of the rows from, from+1, and so on.
func many(from int, count int, w int) []impl.Item {
	var z []impl.Item
	for i := range count {
		z = append(z, impl.Item{Row: []int{from + i}, W: w})
	}
	return z
}

// copied shares nothing with z.
func copied(z []impl.Item) []impl.Item {
	var c []impl.Item
	for _, item := range z {
		c = append(c, impl.Item{Row: slices.Clone(item.Row), W: item.W})
	}
	return c
}

// sameItems says, apart from the program, whether two lists are one.
func sameItems(a []impl.Item, b []impl.Item) bool {
	return slices.EqualFunc(a, b, func(x, y impl.Item) bool { return x.W == y.W && slices.Equal(x.Row, y.Row) })
}

// okByForm is what is ok, said apart from the program.
func okByForm(z []impl.Item) bool {
	for i, item := range z {
		if len(item.Row) < 1 || len(item.Row) > 6 || item.W == 0 || item.W < -10000 || item.W > 10000 {
			return false
		}
		if slices.Min(item.Row) < -1000000000 || slices.Max(item.Row) > 1000000000 {
			return false
		}
		if i > 0 && slices.Compare(z[i-1].Row, item.Row) >= 0 {
			return false
		}
	}
	return len(z) <= 100
}

// addByForm puts lists together row by row, without merging them.
func addByForm(lists ...[]impl.Item) ([]impl.Item, bool) {
	var sum []impl.Item
	for _, z := range lists {
		if !okByForm(z) {
			return nil, false
		}
	next:
		for _, item := range z {
			for i := range sum {
				if slices.Equal(sum[i].Row, item.Row) {
					sum[i].W += item.W
					continue next
				}
			}
			sum = append(sum, impl.Item{Row: slices.Clone(item.Row), W: item.W})
		}
	}
	sum = slices.DeleteFunc(sum, func(item impl.Item) bool { return item.W == 0 })
	slices.SortFunc(sum, func(x, y impl.Item) int { return slices.Compare(x.Row, y.Row) })
	if !okByForm(sum) {
		return nil, false
	}
	return sum, true
}

// smallItems is all lists over a few rows with a few weights, those that are too much together among them.
func smallItems() [][]impl.Item {
	rows := [][]int{{-1, 5}, {0}, {0, -2}, {3}}
	lists := [][]impl.Item{nil}
	for _, row := range rows {
		for _, z := range slices.Clone(lists) {
			for _, w := range []int{-10000, -1, 1, 10000} {
				lists = append(lists, append(copied(z), impl.Item{Row: row, W: w}))
			}
		}
	}
	return lists
}

// wrongItems is lists that are not ok, each for one reason.
func wrongItems() map[string][]impl.Item {
	return map[string][]impl.Item{
		"101 items":         many(0, 101, 1),
		"a weight of 0":     {{Row: []int{1}, W: 0}},
		"0 behind a good":   {{Row: []int{1}, W: 1}, {Row: []int{2}, W: 0}},
		"a weight of 10001": {{Row: []int{1}, W: 10001}},
		"one of -10001":     {{Row: []int{1}, W: -10001}},
		"the greatest":      {{Row: []int{1}, W: math.MaxInt}},
		"the least":         {{Row: []int{1}, W: math.MinInt}},
		"not in order":      {{Row: []int{2}, W: 1}, {Row: []int{1}, W: 1}},
		"last not in order": {{Row: []int{1}, W: 1}, {Row: []int{3}, W: 1}, {Row: []int{2}, W: 1}},
		"longer ahead":      {{Row: []int{1, 0}, W: 1}, {Row: []int{1}, W: 1}},
		"a row twice":       {{Row: []int{1}, W: 1}, {Row: []int{1}, W: 2}},
		"twice, taken away": {{Row: []int{1, 2}, W: 1}, {Row: []int{1, 2}, W: -1}},
		"no cells":          {{Row: nil, W: 1}},
		"7 cells":           {{Row: []int{1, 2, 3, 4, 5, 6, 7}, W: 1}},
		"a great cell":      {{Row: []int{1000000001}, W: 1}},
		"a small cell":      {{Row: []int{0, -1000000001}, W: 1}},
		"a wrong last row":  {{Row: []int{1}, W: 1}, {Row: []int{2, math.MaxInt}, W: 1}},
	}
}

func TestItemsBounds(t *testing.T) {
	if impl.ZRows != 100 || impl.ZMost != 10000 {
		t.Fatal(impl.ZRows, impl.ZMost)
	}
	for name, z := range map[string][]impl.Item{
		"nil":        nil,
		"none":       {},
		"100":        many(-50, 100, 7),
		"10000":      many(0, 3, 10000),
		"-10000":     many(0, 3, -10000),
		"a beginner": items(t, "1", 1, "1,-5", -1, "1,0,0,0,0,0", 2, "2", 1),
		"bounds":     items(t, "-1000000000", 1, "1000000000,1000000000", 1),
	} {
		if !impl.ZOk(z) {
			t.Errorf("%s: not ok", name)
		}
	}
	for name, z := range wrongItems() {
		if impl.ZOk(z) {
			t.Errorf("%s: ok", name)
		}
	}
	for w, want := range map[int]bool{-10001: false, -10000: true, -1: true, 0: false, 1: true, 10000: true, 10001: false} {
		for at := range 3 {
			z := many(0, 3, 1)
			z[at].W = w
			if impl.ZOk(z) != want {
				t.Errorf("a weight of %d at %d: ok is not %v", w, at, want)
			}
		}
	}
}

func TestItemsSame(t *testing.T) {
	lists := append(smallItems()[:200], many(0, 2, 1), many(0, 3, 1), many(0, 3, 2), items(t, "0", 1, "1", 1, "2,0", 1))
	for _, z := range wrongItems() {
		lists = append(lists, z)
	}
	for i, a := range lists {
		for j, b := range lists {
			if got, want := impl.ZSame(a, b), sameItems(a, b); got != want {
				t.Fatalf("lists %d and %d: %v", i, j, got)
			}
		}
	}
	if !impl.ZSame(nil, []impl.Item{}) || !impl.ZSame([]impl.Item{{W: 1}}, []impl.Item{{Row: []int{}, W: 1}}) {
		t.Error("the nil list is not the empty list")
	}
}

func TestItemsTogether(t *testing.T) {
	for _, c := range []struct{ a, b, want []impl.Item }{
		{nil, nil, nil},
		{many(1, 3, 2), nil, many(1, 3, 2)},
		{items(t, "1", 1, "3", 1), items(t, "2", -1, "4", 5), items(t, "1", 1, "2", -1, "3", 1, "4", 5)},
		{items(t, "1", 1, "1,0", 2), items(t, "1", 3, "1,-1", 4), items(t, "1", 4, "1,-1", 4, "1,0", 2)},
		{items(t, "1", 1, "2", 2, "3", -3), items(t, "1", -1, "2", -1, "3", 3), items(t, "2", 1)},
		{many(0, 100, 9999), many(0, 100, 1), many(0, 100, 10000)},
		{many(0, 100, -9999), many(0, 100, -1), many(0, 100, -10000)},
		{many(0, 60, 1), many(60, 40, 1), many(0, 100, 1)},
		{many(0, 100, 1), many(0, 100, -1), nil},
		{many(0, 100, 1), many(50, 100, -1), append(many(0, 50, 1), many(100, 50, -1)...)},
		{many(0, 100, 1), append(items(t, "0", -1), many(100, 1, 1)...), many(1, 100, 1)},
	} {
		for _, in := range [][2][]impl.Item{{c.a, c.b}, {c.b, c.a}} {
			if got, ok := impl.ZAdd(in[0], in[1]); !ok || !sameItems(got, c.want) {
				t.Errorf("%v and %v are %v, %v; want %v", in[0], in[1], got, ok, c.want)
			}
		}
	}
}

func TestItemsTogetherTooMuch(t *testing.T) {
	for _, in := range [][2][]impl.Item{
		{many(1, 1, 10000), many(1, 1, 1)},
		{many(1, 1, -10000), many(1, 1, -1)},
		{many(1, 1, 10000), many(1, 1, 10000)},
		{items(t, "1", 1, "2", 5001), items(t, "2", 5000, "3", 1)},
		{many(0, 100, 1), many(100, 1, 1)},
		{many(0, 100, 1), many(-1, 1, 1)},
		{many(0, 100, 1), many(51, 100, -1)},
		{many(0, 100, 1), many(99, 2, 1)},
	} {
		for _, turn := range [][2][]impl.Item{in, {in[1], in[0]}} {
			if got, ok := impl.ZAdd(turn[0], turn[1]); ok || len(got) > 0 {
				t.Errorf("%d items and %d are %d, %v", len(turn[0]), len(turn[1]), len(got), ok)
			}
		}
	}
}

func TestItemsTogetherWrong(t *testing.T) {
	for name, z := range wrongItems() {
		for _, other := range [][]impl.Item{nil, many(1, 2, 1), z, many(0, 100, -1)} {
			if got, ok := impl.ZAdd(z, other); ok || len(got) > 0 {
				t.Errorf("%s, first: %v, %v", name, got, ok)
			}
			if got, ok := impl.ZAdd(other, z); ok || len(got) > 0 {
				t.Errorf("%s, second: %v, %v", name, got, ok)
			}
		}
	}
}

// TestItemsAreAGroup holds ZAdd against addByForm at all pairs, and asks that what was put in can be taken away again.
func TestItemsAreAGroup(t *testing.T) {
	lists := smallItems()
	for i, a := range lists {
		if got, ok := impl.ZAdd(a, impl.ZNeg(a)); !ok || len(got) > 0 {
			t.Fatalf("%v taken away leaves %v, %v", a, got, ok)
		}
		for _, b := range lists[i%7*10:] {
			sum, ok := impl.ZAdd(a, b)
			want, wantOk := addByForm(a, b)
			if ok != wantOk || !sameItems(sum, want) {
				t.Fatalf("%v and %v are %v, %v; want %v, %v", a, b, sum, ok, want, wantOk)
			}
			swapped, swappedOk := impl.ZAdd(b, a)
			if swappedOk != ok || !sameItems(swapped, sum) {
				t.Fatalf("%v and %v in the other order are %v, %v", a, b, swapped, swappedOk)
			}
			if !ok {
				continue
			}
			if back, ok := impl.ZAdd(sum, impl.ZNeg(b)); !ok || !sameItems(back, a) {
				t.Fatalf("%v with and without %v is %v, %v", a, b, back, ok)
			}
		}
	}
}

func TestItemsTogetherInAnyGrouping(t *testing.T) {
	lists := [][]impl.Item{nil, many(0, 3, 1), many(1, 3, -1), items(t, "0", 2, "0,0", 1, "2", -7), items(t, "-5", 1, "3", 1), many(2, 40, 3)}
	for _, a := range lists {
		for _, b := range lists {
			for _, c := range lists {
				want, _ := addByForm(a, b, c)
				ab, ok1 := impl.ZAdd(a, b)
				left, ok2 := impl.ZAdd(ab, c)
				bc, ok3 := impl.ZAdd(b, c)
				right, ok4 := impl.ZAdd(a, bc)
				if !ok1 || !ok2 || !ok3 || !ok4 || !sameItems(left, want) || !sameItems(right, want) {
					t.Fatalf("%v, %v, %v: %v and %v; want %v", a, b, c, left, right, want)
				}
			}
		}
	}
}

func TestItemsTakenAway(t *testing.T) {
	if got, want := impl.ZNeg(items(t, "1", 3, "1,2", -10000, "2", 10000)), items(t, "1", -3, "1,2", 10000, "2", -10000); !sameItems(got, want) {
		t.Error(got)
	}
	for _, z := range append(smallItems(), many(0, 100, 5)) {
		if twice := impl.ZNeg(impl.ZNeg(z)); !sameItems(twice, z) {
			t.Fatalf("%v twice is %v", z, twice)
		}
	}
	if len(impl.ZNeg(nil)) > 0 {
		t.Error("something of none")
	}
	for name, z := range wrongItems() {
		if got := impl.ZNeg(z); len(got) > 0 {
			t.Errorf("%s: %v", name, got)
		}
	}
}

func TestItemsGet(t *testing.T) {
	for count := range 101 {
		z := many(0, count, 1)
		for i := range z {
			z[i].Row = []int{2 * i, 0}
			z[i].W = i - 200
		}
		for i := range count {
			if got := impl.ZGet(z, []int{2 * i, 0}); got != i-200 {
				t.Fatalf("of %d the one at %d has %d", count, i, got)
			}
			if impl.ZGet(z, []int{2*i + 1, 0}) != 0 || impl.ZGet(z, []int{2 * i}) != 0 || impl.ZGet(z, []int{2 * i, 0, 0}) != 0 {
				t.Fatalf("of %d something near %d is there", count, i)
			}
		}
		for _, r := range [][]int{nil, {}, {-1}, {-1, 0}, {1000000000}, {math.MinInt}, {math.MaxInt}, {0, 0, 0, 0, 0, 0, 0}} {
			if got := impl.ZGet(z, r); got != 0 {
				t.Fatalf("of %d the row %v has %d", count, r, got)
			}
		}
	}
	for name, z := range wrongItems() {
		for _, item := range z {
			if got := impl.ZGet(z, item.Row); got != 0 {
				t.Errorf("%s: %v has %d", name, item.Row, got)
			}
		}
	}
}

func TestItemsOnce(t *testing.T) {
	got := impl.ZPos(items(t, "1", 3, "1,2", -1, "2", 10000, "3", 1, "4", -10000))
	if !sameItems(got, items(t, "1", 1, "2", 1, "3", 1)) {
		t.Error(got)
	}
	if len(impl.ZPos(nil)) > 0 || len(impl.ZPos(many(0, 100, -1))) > 0 {
		t.Error("something of nothing")
	}
	if !sameItems(impl.ZPos(many(0, 100, 50)), many(0, 100, 1)) {
		t.Error("100 items")
	}
	for name, z := range wrongItems() {
		if got := impl.ZPos(z); len(got) > 0 {
			t.Errorf("%s: %v", name, got)
		}
	}
}

func TestItemsText(t *testing.T) {
	for _, c := range []struct {
		z    []impl.Item
		want string
	}{
		{nil, ""},
		{[]impl.Item{}, ""},
		{items(t, "1", 1), "1*1"},
		{items(t, "-1,2", -3, "0", 10000), "-1,2*-3 0*10000"},
		{items(t, "2", 1, "1", 0), "2*1 1*0"},
	} {
		if got := impl.ZText(c.z); got != c.want {
			t.Errorf("%v is %q; want %q", c.z, got, c.want)
		}
	}
}

func TestItemsAreReadFromTheirText(t *testing.T) {
	lists := append(smallItems(), many(0, 100, -10000), many(-1000000000, 100, 10000), items(t, "-1000000000,-1000000000,-1000000000,-1000000000,-1000000000,-1000000000", -10000))
	widest := many(0, 100, -10000)
	for i := range widest {
		widest[i].Row = []int{-1000000000, -1000000000, -1000000000, -1000000000, -1000000000, -1000000000 + i}
	}
	for _, z := range append(lists, widest) {
		if got, ok := impl.ZRead(impl.ZText(z)); !ok || !sameItems(got, z) {
			t.Fatalf("%v is read as %v, %v", z, got, ok)
		}
	}
	for name, z := range wrongItems() {
		if got, ok := impl.ZRead(impl.ZText(z)); ok || len(got) > 0 {
			t.Errorf("%s: %v, %v", name, got, ok)
		}
	}
}

func TestItemsReadWrong(t *testing.T) {
	wrong := []string{
		" ", "  ", " 1*1", "1*1 ", "1*1  2*1", "1*1\t2*1", "1*1\n", "1*1 2*1\n", "1*1,2*1", "1 *1", "1* 1", "1*1 *", "1*1 2",
		"1", "*", "*1", "1*", "1**1", "1*1*1", "1,*1", ",1*1", "1,,2*1", "11", "1,1",
		"1*0", "1*-0", "1*+1", "1*01", "1*-01", "1*00", "1*--1", "1*-", "1*+", "01*1", "-0*1", "+1*1",
		"1*10001", "1*-10001", "1*100000", "1*9223372036854775808", "1*18446744073709551617", "1*-18446744073709551615", "1*4294967297",
		"1*1_0", "1*0x1", "1*1e1", "1*1.0", "1*a", "a*1", "1*1 a",
		"1*1 1*1", "1*1 1*-1", "2*1 1*1", "1,0*1 1*1", "1*1 3*1 2*1", "1000000001*1", "-1000000001*1", "1,2,3,4,5,6,7*1",
		"\xff", "\xff*1", "1*\xff", "1*1\xff", "\xff1*1", "1*1 \xff", "1*1\xff2*1", "1\xff*1", "1*1 2\xc3*1", "1*\xe2\x82",
		"1*1\u00a02*1", "1\uff0a1", "1*\u0661", "1\ufffd*1", "\ufeff1*1", "1*1\x00", "1*1\r",
		strings.Repeat(" ", 9000), strings.Repeat("*", 9000), strings.Repeat("9", 9000), strings.Repeat("1*1 ", 2250),
		"1*" + strings.Repeat("0", 8997) + "1", "1*1" + strings.Repeat(" ", 8997), "1*1" + strings.Repeat(" ", 8998), strings.Repeat("1*1 ", 50000),
	}
	for _, text := range wrong {
		if got, ok := impl.ZRead(text); ok || len(got) > 0 {
			t.Errorf("%.40q (%d bytes) is %v, %v", text, len(text), got, ok)
		}
	}
}

// TestItemsReadTooLong reads texts of just 9000 bytes, and of more: all are more than 100 items.
func TestItemsReadTooLong(t *testing.T) {
	for _, count := range []int{100, 101, 102, 900, 1000} {
		var words []string
		for i := range count {
			words = append(words, strconv.Itoa(1000000+i)+"*1")
		}
		for _, text := range []string{strings.Join(words, " "), strings.Join(words, " ") + "0", strings.Join(words, " ") + "00"} {
			got, ok := impl.ZRead(text)
			if ok != (count == 100) || !ok && len(got) > 0 || ok && impl.ZText(got) != text {
				t.Errorf("%d items (%d bytes): %d, %v", count, len(text), len(got), ok)
			}
		}
	}
}

// readByForm is what ZRead must answer, said apart from the program.
func readByForm(text string) ([]impl.Item, bool) {
	if text == "" {
		return nil, true
	}
	var z []impl.Item
	for _, word := range strings.Split(text, " ") {
		cells, weight, _ := strings.Cut(word, "*")
		row, ok := rowByForm(cells)
		w, err := strconv.Atoi(weight)
		if !ok || err != nil || strconv.Itoa(w) != weight {
			return nil, false
		}
		z = append(z, impl.Item{Row: row, W: w})
	}
	if !okByForm(z) {
		return nil, false
	}
	return z, true
}

func wantItemsRead(t *testing.T, text string) {
	t.Helper()
	want, wantOk := readByForm(text)
	if got, ok := impl.ZRead(text); ok != wantOk || !sameItems(got, want) {
		t.Fatalf("ZRead(%q) = %v, %v; want %v, %v", text, got, ok, want, wantOk)
	}
}

func TestItemsReadEveryShortText(t *testing.T) {
	texts := []string{""}
	for first := 0; first < len(texts); first++ {
		wantItemsRead(t, texts[first])
		if len(texts[first]) == 7 {
			continue
		}
		for _, sign := range []string{"0", "1", "2", "-", "*", " "} {
			texts = append(texts, texts[first]+sign)
		}
	}
}

func TestItemsReadOneByteOff(t *testing.T) {
	for _, good := range []string{"0*1", "-5,10*-20 1*10000", "1*1 1,0*1 1,0,0*1 2*-1"} {
		wantItemsRead(t, good)
		for at := range len(good) + 1 {
			for b := range 256 {
				wantItemsRead(t, good[:at]+string([]byte{byte(b)})+good[at:])
				if at < len(good) {
					wantItemsRead(t, good[:at]+string([]byte{byte(b)})+good[at+1:])
				}
			}
			if at < len(good) {
				wantItemsRead(t, good[:at]+good[at+1:])
			}
		}
	}
}

// spoil writes into all that an answer can reach, spare room included.
func spoil(z []impl.Item) {
	for _, item := range z[:cap(z)] {
		spoilRow(item.Row)
	}
	for i := range z[:cap(z)] {
		z[:cap(z)][i] = impl.Item{Row: []int{-99}, W: -99}
	}
}

func spoilRow(r []int) {
	for i := range r[:cap(r)] {
		r[:cap(r)][i] = -99
	}
}

// roomy is items with room behind the list and behind each row, filled with what no call may touch.
func roomy(z []impl.Item) []impl.Item {
	var r []impl.Item
	for _, item := range z {
		r = append(r, impl.Item{Row: append(slices.Clone(item.Row), 71, 72)[:len(item.Row)], W: item.W})
	}
	return append(r, impl.Item{Row: []int{73}, W: 74}, impl.Item{Row: []int{75}, W: 76})[:len(z)]
}

// allOf is items with what is behind the list and behind each row's end.
func allOf(z []impl.Item) []impl.Item {
	var all []impl.Item
	for _, item := range z[:cap(z)] {
		all = append(all, impl.Item{Row: slices.Clone(item.Row[:cap(item.Row)]), W: item.W})
	}
	return all
}

func TestItemsAreNewMemory(t *testing.T) {
	calls := map[string]func(a, b []impl.Item) []impl.Item{
		"ZAdd": func(a, b []impl.Item) []impl.Item {
			z, _ := impl.ZAdd(a, b)
			return z
		},
		"ZNeg": func(a, b []impl.Item) []impl.Item { return impl.ZNeg(a) },
		"ZPos": func(a, b []impl.Item) []impl.Item { return impl.ZPos(a) },
		"ZRead": func(a, b []impl.Item) []impl.Item {
			z, _ := impl.ZRead(impl.ZText(a))
			return z
		},
	}
	lists := [][]impl.Item{nil, items(t, "1", 1, "1,2,3", -2, "3", 5), many(1, 3, -1), many(0, 40, 2), wrongItems()["not in order"]}
	for name, call := range calls {
		for _, a := range lists {
			for _, b := range lists {
				x, y := roomy(a), roomy(b)
				wasX, wasY := allOf(x), allOf(y)
				got, again := call(x, y), call(x, y)
				want := copied(again)
				spoil(got)
				if !sameItems(allOf(x), wasX) || !sameItems(allOf(y), wasY) || !sameItems(again, want) {
					t.Fatalf("%s of %v and %v shares memory", name, a, b)
				}
			}
		}
	}
}

// TestItemsRowsAreApart writes into one row of an answer, behind its end too, and looks at the others.
func TestItemsRowsAreApart(t *testing.T) {
	a, b := items(t, "1", 1, "1,2,3", 2, "3", 5), items(t, "1", 1, "2,2,2", 2)
	sum, _ := impl.ZAdd(a, b)
	read, _ := impl.ZRead("1*1 1,2,3*2 2,2,2*1 3*5")
	twice, _ := impl.ZAdd(a, a)
	for name, z := range map[string][]impl.Item{"ZAdd": sum, "ZAdd of one": twice, "ZNeg": impl.ZNeg(a), "ZPos": impl.ZPos(a), "ZRead": read} {
		for at := range z {
			was := copied(z)
			spoilRow(z[at].Row)
			for i := range z {
				if i > at && !slices.Equal(z[i].Row, was[i].Row) {
					t.Errorf("%s: the rows at %d and %d share memory", name, at, i)
				}
			}
			z[at].Row = was[at].Row
		}
	}
}

func TestItemsAreNotChanged(t *testing.T) {
	a, b := roomy(items(t, "1", 1, "1,2", -2)), roomy(many(1, 3, 2))
	wasA, wasB := allOf(a), allOf(b)
	r := []int{1, 2, 8, 9}
	impl.ZOk(a)
	impl.ZSame(a, b)
	impl.ZGet(a, r[:2])
	impl.ZText(a)
	if !sameItems(allOf(a), wasA) || !sameItems(allOf(b), wasB) || !slices.Equal(r, []int{1, 2, 8, 9}) {
		t.Error(a, b, r)
	}
}
