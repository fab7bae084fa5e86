package tests

import (
	"fmt"
	"math"
	"math/rand"
	"slices"
	"testing"

	"loop.example/milldam/impl"
)

// withoutByForm takes rows away one by one, and says whether what is left is ok.
func withoutByForm(z []impl.Item, gone []impl.Item) ([]impl.Item, bool) {
	all := copied(z)
	for _, item := range gone {
		all = append(all, impl.Item{Row: slices.Clone(item.Row), W: -item.W})
	}
	return sumByForm(all)
}

// onceByForm is the rows that are there, each once.
func onceByForm(z []impl.Item) []impl.Item {
	once := slices.DeleteFunc(copied(z), func(item impl.Item) bool { return item.W < 0 })
	for i := range once {
		once[i].W = 1
	}
	return once
}

// deltaJoinByForm, deltaOnceByForm, nearByForm and deltaGroupByForm are what is told, said apart from the program.
func deltaJoinByForm(a, da, b, db []impl.Item, x int, y int) ([]impl.Item, bool) {
	var all []impl.Item
	for _, sides := range [][2][]impl.Item{{da, b}, {a, db}, {da, db}} {
		pairs, good := pairsByForm(sides[0], sides[1], x, y)
		if !good || !okByForm(sides[0]) || !okByForm(sides[1]) {
			return nil, false
		}
		all = append(all, pairs...)
	}
	return sumByForm(all)
}

func deltaOnceByForm(z, d []impl.Item) ([]impl.Item, bool) {
	then, ok := addByForm(z, d)
	if !ok {
		return nil, false
	}
	return withoutByForm(onceByForm(then), onceByForm(z))
}

// areKeysByForm says whether keys are such for all rows of these lists.
func areKeysByForm(keys []int, lists ...[]impl.Item) bool {
	if len(keys) > 5 {
		return false
	}
	for i, key := range keys {
		if key < 0 || key > 5 || slices.Index(keys, key) != i || !isColByForm(key, lists...) {
			return false
		}
	}
	return true
}

// isColByForm says whether all rows of these lists have such a place.
func isColByForm(at int, lists ...[]impl.Item) bool {
	for _, item := range slices.Concat(lists...) {
		if at < 0 || at >= len(item.Row) {
			return false
		}
	}
	return true
}

// nearByForm holds each row of z against each row of d; it is only asked if keys are such.
func nearByForm(z, d []impl.Item, keys []int) []impl.Item {
	var near []impl.Item
	for _, item := range z {
		if slices.ContainsFunc(d, func(other impl.Item) bool {
			return slices.Equal(atByForm(item.Row, keys), atByForm(other.Row, keys))
		}) {
			near = append(near, item)
		}
	}
	return near
}

func deltaNearByForm(z, d []impl.Item, keys []int) []impl.Item {
	if !okByForm(z) || !okByForm(d) || !areKeysByForm(keys, z, d) {
		return nil
	}
	return nearByForm(z, d, keys)
}

func deltaGroupByForm(z, d []impl.Item, keys []int, agg int, at int) ([]impl.Item, bool) {
	all, ok := addByForm(z, d)
	if !ok || !areKeysByForm(keys, z, d) || !isColByForm(at, z, d) {
		return nil, false
	}
	then, thenOk := groupByForm(nearByForm(all, d, keys), keys, agg, at)
	was, wasOk := groupByForm(nearByForm(z, d, keys), keys, agg, at)
	if !thenOk || !wasOk {
		return nil, false
	}
	return withoutByForm(then, was)
}

// wantTurned asks that what was, with what was told, is what is then.
func wantTurned(t *testing.T, what string, was []impl.Item, told []impl.Item, then []impl.Item) {
	t.Helper()
	got, ok := addByForm(was, told)
	if !ok || !sameItems(got, then) {
		t.Fatalf("%s: %s with %s is %s, %v; want %s", what, impl.ZText(was), impl.ZText(told), impl.ZText(got), ok, impl.ZText(then))
	}
}

// wantJoinTurned is wantTurned of what is joined; it says whether all that it takes can be told.
func wantJoinTurned(t *testing.T, a, da, b, db []impl.Item, x int, y int) bool {
	t.Helper()
	thenA, okA := impl.ZAdd(a, da)
	thenB, okB := impl.ZAdd(b, db)
	was, wasOk := impl.JoinOf(a, b, x, y)
	then, thenOk := impl.JoinOf(thenA, thenB, x, y)
	told, ok := impl.DeltaJoin(a, da, b, db, x, y)
	if !ok || !okA || !okB || !wasOk || !thenOk {
		return false
	}
	wantTurned(t, fmt.Sprint("joined ", a, da, b, db, x, y), was, told, then)
	return true
}

// wantGroupTurned is wantTurned of groups; it says whether all that it takes can be told.
func wantGroupTurned(t *testing.T, z, d []impl.Item, keys []int, agg int, at int) bool {
	t.Helper()
	all, allOk := impl.ZAdd(z, d)
	was, wasOk := impl.GroupOf(z, keys, agg, at)
	then, thenOk := impl.GroupOf(all, keys, agg, at)
	told, ok := impl.DeltaGroup(z, d, keys, agg, at)
	if !ok || !allOk || !wasOk || !thenOk {
		return false
	}
	wantTurned(t, fmt.Sprint("groups ", z, d, keys, agg, at), was, told, then)
	return true
}

// rowsAt is rows of a cell that is the same in all, and one that tells them apart.
func rowsAt(cell int, from int, count int, w int) []impl.Item {
	z := many(from, count, w)
	for i := range z {
		z[i].Row = []int{cell, from + i}
	}
	return z
}

func TestDeltaJoinRows(t *testing.T) {
	for _, c := range []struct {
		a, da, b, db string
		x, y         int
		want         string
	}{
		{"1,10*2 2,20*1", "1,10*-1", "1,7*1", "2,8*1", 0, 0, "1,10,1,7*-1 2,20,2,8*1"},
		{"1,10*2 2,20*1", "3,30*4", "1,7*1 3,8*2", "", 0, 0, "3,30,3,8*8"},
		{"1,10*2 2,20*1", "", "1,7*1 3,8*2", "1,7*-1 2,9*3", 0, 0, "1,10,1,7*-2 2,20,2,9*3"},
		{"10,1*2", "20,1*1", "1*3", "1*-1", 1, 0, "10,1,1*-2 20,1,1*2"},
		{"1*2", "1*1", "5,1*3", "6,1*1", 0, 1, "1,5,1*3 1,6,1*3"},
		{"1*1", "2*1", "3*1", "4*1", 0, 0, ""},
		{"1,1,1*1", "1,1,2*1", "8,8,1*1", "9,9,1*1", 1, 2, "1,1,1,9,9,1*1 1,1,2,8,8,1*1 1,1,2,9,9,1*1"},
	} {
		a, da, b, db := read(t, c.a), read(t, c.da), read(t, c.b), read(t, c.db)
		got, ok := impl.DeltaJoin(a, da, b, db, c.x, c.y)
		wantText(t, fmt.Sprint(c), got, ok, c.want)
		if !wantJoinTurned(t, a, da, b, db, c.x, c.y) {
			t.Error(c, "can not be told")
		}
	}
}

// TestDeltaJoinBothTurned turns both sides at once: what is new on both, what goes on both, and what goes on one as it comes on the other.
func TestDeltaJoinBothTurned(t *testing.T) {
	for _, c := range []struct{ a, da, b, db, want string }{
		{"", "1*2", "", "1*3", "1,1*6"},
		{"2*1", "1*2", "3*1", "1*3", "1,1*6"},
		{"1*2", "1*-2", "1*3", "1*-3", "1,1*-6"},
		{"1*2", "1*-1", "1*3", "1*-1", "1,1*-4"},
		{"1*2", "1*1", "1*3", "1*1", "1,1*6"},
		{"1*2", "1*-2", "", "1*3", ""},
		{"", "1*2", "1*3", "1*-3", ""},
		{"1*2", "1*2", "1*4", "1*-2", ""},
		{"1*-2", "1*4", "1*3", "1*-6", ""},
		{"1*-2", "1*1", "1*-3", "1*1", "1,1*-4"},
		{"1,1*1", "1,1*-1 1,2*1", "1,5*1", "1,5*-1 1,6*1", "1,1,1,5*-1 1,2,1,6*1"},
		{"1,1*1 2,1*1", "1,2*1 2,1*-1", "1,5*1 2,5*1", "1,6*1 2,5*-1", "1,1,1,6*1 1,2,1,5*1 1,2,1,6*1 2,1,2,5*-1"},
	} {
		a, da, b, db := read(t, c.a), read(t, c.da), read(t, c.b), read(t, c.db)
		got, ok := impl.DeltaJoin(a, da, b, db, 0, 0)
		wantText(t, fmt.Sprint(c), got, ok, c.want)
		if !wantJoinTurned(t, a, da, b, db, 0, 0) {
			t.Error(c, "can not be told")
		}
	}
	// Rows of several widths: the pairs of all three come to one row.
	got, ok := impl.DeltaJoin(read(t, "1*1"), read(t, "1,1*1"), read(t, "1*1"), read(t, "1,1*1"), 0, 0)
	wantText(t, "three pairs, two of one row", got, ok, "1,1,1*2 1,1,1,1*1")
	got, ok = impl.DeltaJoin(read(t, "1*1"), read(t, "1,1*-1"), read(t, "1*1"), read(t, "1,1*1"), 0, 0)
	wantText(t, "one of them goes", got, ok, "1,1,1,1*-1")
}

// TestDeltaJoinToOneRow joins rows of several widths, so that two pairs of the same two lists are one row.
func TestDeltaJoinToOneRow(t *testing.T) {
	for _, c := range []struct{ first, second, want string }{
		{"1*2 1,1*3", "1*5 1,1*7", "1,1*10 1,1,1*29 1,1,1,1*21"},
		{"1*1 1,1*1", "1*1 1,1*-1", "1,1*1 1,1,1,1*-1"},
		{"1,2*1 1,2,1*1", "1,1,3*1 1,3*1", "1,2,1,1,1,3*1 1,2,1,1,3*2 1,2,1,3*1"},
	} {
		first, second := read(t, c.first), read(t, c.second)
		for name, in := range map[string][4][]impl.Item{"da and b": {nil, first, second, nil}, "a and db": {first, nil, nil, second}, "da and db": {nil, first, nil, second}} {
			got, ok := impl.DeltaJoin(in[0], in[1], in[2], in[3], 0, 0)
			wantText(t, name+fmt.Sprint(c), got, ok, c.want)
		}
	}
}

func TestDeltaJoinOfNothing(t *testing.T) {
	some := read(t, "1,2*1 3,3*-2")
	for _, none := range [][]impl.Item{nil, {}} {
		for name, in := range map[string][4][]impl.Item{
			"no items at all": {none, none, none, none}, "nothing turned": {some, none, some, none}, "nothing but a": {some, none, none, none}, "nothing but da": {none, some, none, none},
			"nothing but b": {none, none, some, none}, "nothing but db": {none, none, none, some}, "a and da": {some, some, none, none}, "b and db": {none, none, some, some},
		} {
			got, ok := impl.DeltaJoin(in[0], in[1], in[2], in[3], 1, 0)
			wantText(t, name, got, ok, "")
		}
	}
	full := rowsAt(1, 0, 100, 10000)
	got, ok := impl.DeltaJoin(full, nil, full, nil, 0, 0)
	wantText(t, "what is far too much, but not turned", got, ok, "")
}

// TestDeltaJoinTogether has pairs that are too much by themselves, and pairs that are only too much together.
func TestDeltaJoinTogether(t *testing.T) {
	for _, c := range []struct {
		a, da, b, db string
		want         string
		ok           bool
	}{
		{"", "1*2", "1*10000", "1*-5000", "1,1*10000", true},
		{"", "1*2", "1*10000", "1*-4999", "", false},
		{"1*10000", "1*-5000", "", "1*2", "1,1*10000", true},
		{"1*10000", "1*-4999", "", "1*2", "", false},
		{"", "1*200", "1*-50", "1*100", "1,1*10000", true},
		{"", "1*200", "1*-49", "1*100", "", false},
		{"1*-50", "1*100", "", "1*200", "1,1*10000", true},
		{"1*10000", "1*10000", "1*-10000", "1*10000", "", false},
		{"1*10000", "1*-10000", "1*10000", "1*-10000", "", false},
		{"1*10000", "1*-10000", "1*-10000", "1*5000", "", false},
		{"1*10000", "1*10000", "1*10000", "1*-5000", "", true},
		{"1*3999", "1*1", "1*6000", "1*1", "1,1*10000", true},
		{"1*4000", "1*1", "1*6000", "1*1", "", false},
		{"1*3999", "1*1", "1*6001", "1*1", "", false},
		{"1*-4001", "1*1", "1*-6000", "1*1", "1,1*-10000", true},
		{"1*-4002", "1*1", "1*-6000", "1*1", "", false},
		{"", "1*1", "1*10000", "", "1,1*10000", true},
		{"", "1*2", "1*5001", "", "", false},
		{"1*-10000", "", "", "1*1", "1,1*-10000", true},
		{"1*10000", "", "", "1*-2", "", false},
		{"", "1*100", "", "1*100", "1,1*10000", true},
		{"", "1*-73", "", "1*137", "", false},
		{"", "1,1,1,1*1", "1,1,1*1", "", "", false},
		{"1,1,1*1", "", "", "1,1,1,1*1", "", false},
		{"", "1,1,1,1*1", "", "1,1,1*1", "", false},
		{"", "1,1,1*1", "1,1,1*1", "", "1,1,1,1,1,1*1", true},
		{"", "1,1,1,1*1", "1,1,1*1", "1,1,1*-1", "", true},
		{"1,1,1,1*1", "1,1,1,1*-1", "", "1,1,1*1", "", true},
		{"", "1,1,1,1*1", "1,1,1*1", "1,1*1 1,1,1*-1", "1,1,1,1,1,1*1", true},
		{"", "1,1,1,1*1", "1,1,1*1", "1,1,1*-2", "", false},
		{"1,1,1,1,1,1*1", "0*1", "0*1 1*1", "", "0,0*1", true},
	} {
		a, da, b, db := read(t, c.a), read(t, c.da), read(t, c.b), read(t, c.db)
		got, ok := impl.DeltaJoin(a, da, b, db, 0, 0)
		wantTold(t, fmt.Sprint(c), got, ok, read(t, c.want), c.ok)
	}
}

func TestDeltaJoinRowsThatAreTold(t *testing.T) {
	for _, c := range []struct {
		name         string
		a, da, b, db []impl.Item
		told         int
	}{
		{"of da and b", nil, many(0, 100, 1), many(0, 100, 1), nil, 100},
		{"of a and db", many(0, 100, 1), nil, nil, many(0, 100, -1), 100},
		{"of da and db", nil, many(0, 100, -1), nil, many(0, 100, -1), 100},
		{"10 by 10", nil, rowsAt(7, 0, 10, 1), rowsAt(7, 0, 10, 1), nil, 100},
		{"101 of da and b", nil, append(rowsAt(7, 0, 10, 1), rowsAt(8, 0, 1, 1)...), append(rowsAt(7, 0, 10, 1), rowsAt(8, 0, 1, 1)...), nil, 0},
		{"101 of a and db", append(rowsAt(7, 0, 10, 1), rowsAt(8, 0, 1, 1)...), nil, nil, append(rowsAt(7, 0, 10, 1), rowsAt(8, 0, 1, 1)...), 0},
		{"101 of da and db", nil, append(rowsAt(7, 0, 10, 1), rowsAt(8, 0, 1, 1)...), nil, append(rowsAt(7, 0, 10, 1), rowsAt(8, 0, 1, 1)...), 0},
		{"100 of all three", many(50, 49, 1), append(many(0, 50, 1), many(200, 1, 1)...), many(0, 50, 1), append(many(50, 49, 1), many(200, 1, 1)...), 100},
		{"101 of all three", many(50, 50, 1), append(many(0, 50, 1), many(200, 1, 1)...), many(0, 50, 1), append(many(50, 50, 1), many(200, 1, 1)...), 0},
		{"110 of da and b, 10 of which go", nil, rowsAt(7, 0, 10, 1), rowsAt(7, 0, 11, 1), rowsAt(7, 10, 1, -1), 100},
		{"110 of a and db, 10 of which go", rowsAt(7, 0, 11, 1), rowsAt(7, 10, 1, -1), nil, rowsAt(7, 0, 10, 1), 100},
		{"110 of da and db, 99 of which go", nil, rowsAt(7, 0, 11, 1), rowsAt(7, 0, 9, -1), rowsAt(7, 0, 10, 1), 11},
		{"10000 of da and b, all of which go", nil, rowsAt(7, 0, 100, 1), rowsAt(7, 0, 100, 1), rowsAt(7, 0, 100, -1), 0},
	} {
		got, ok := impl.DeltaJoin(c.a, c.da, c.b, c.db, 0, 0)
		want, wantOk := deltaJoinByForm(c.a, c.da, c.b, c.db, 0, 0)
		wantTold(t, c.name, got, ok, want, wantOk)
		if len(got) != c.told {
			t.Errorf("%s: %d rows are told; want %d", c.name, len(got), c.told)
		}
	}
}

func TestDeltaJoinPlaces(t *testing.T) {
	six, one := read(t, "5,5,5,5,5,5*1"), read(t, "5*1")
	for _, at := range []int{math.MinInt, -1, 0, 1, 4, 5, 6, 7, math.MaxInt} {
		good := at >= 0 && at <= 5
		for _, four := range read(t, "4*1 5*-1") {
			other := []impl.Item{four}
			for _, in := range [][4][]impl.Item{{six, nil, other, nil}, {six, nil, nil, nil}, {nil, six, nil, nil}, {nil, nil, other, nil}, {nil, nil, nil, nil}} {
				got, ok := impl.DeltaJoin(in[0], in[1], in[2], in[3], at, 0)
				wantTold(t, fmt.Sprint("x ", at, in), got, ok, nil, good)
				got, ok = impl.DeltaJoin(in[2], in[3], in[0], in[1], 0, at)
				wantTold(t, fmt.Sprint("y ", at, in), got, ok, nil, good)
			}
		}
		for _, in := range [][4][]impl.Item{{one, nil, nil, one}, {nil, one, one, nil}, {nil, one, nil, one}} {
			got, ok := impl.DeltaJoin(in[0], in[1], in[2], in[3], at, 0)
			wantTold(t, fmt.Sprint("x ", at, in), got, ok, read(t, "5,5*1"), at == 0)
			got, ok = impl.DeltaJoin(in[0], in[1], in[2], in[3], 0, at)
			wantTold(t, fmt.Sprint("y ", at, in), got, ok, read(t, "5,5*1"), at == 0)
		}
		// Just the last place of the widest rows, which are too wide only where they are joined.
		for _, in := range [][4][]impl.Item{{six, nil, nil, read(t, "4*1")}, {nil, six, read(t, "4*1"), nil}, {nil, six, nil, read(t, "4*1")}} {
			got, ok := impl.DeltaJoin(in[0], in[1], in[2], in[3], at, 0)
			wantTold(t, fmt.Sprint("x ", at, in), got, ok, nil, good)
			got, ok = impl.DeltaJoin(in[2], in[3], in[0], in[1], 0, at)
			wantTold(t, fmt.Sprint("y ", at, in), got, ok, nil, good)
		}
	}
}

// TestDeltaJoinPlaceOfSomeRows has a place that some rows have not, in each list: it is asked of the rows of two lists that are joined, and of a and b it is not asked.
func TestDeltaJoinPlaceOfSomeRows(t *testing.T) {
	mixed, good := read(t, "1,2*1 3*-1"), read(t, "7,7*1")
	for _, c := range []struct {
		name         string
		a, da, b, db []impl.Item
		ok           bool
	}{
		{"a, with db", mixed, nil, nil, good, false}, {"a, with b", mixed, nil, good, nil, true}, {"a alone", mixed, nil, nil, nil, true}, {"a, with da", mixed, good, nil, nil, true}, {"a, with da and b", mixed, good, good, nil, true},
		{"da, with b", nil, mixed, good, nil, false}, {"da, with db", nil, mixed, nil, good, false}, {"da alone", nil, mixed, nil, nil, true}, {"da, with a", good, mixed, nil, nil, true}, {"da, with b and db", good, mixed, good, good, false},
		{"a, which goes", mixed, impl.ZNeg(mixed), nil, good, false},
	} {
		got, ok := impl.DeltaJoin(c.a, c.da, c.b, c.db, 1, 1)
		want := []impl.Item(nil)
		if c.ok {
			want, _ = deltaJoinByForm(c.a, c.da, c.b, c.db, 1, 1)
		}
		wantTold(t, "x, "+c.name, got, ok, want, c.ok)
		got, ok = impl.DeltaJoin(c.b, c.db, c.a, c.da, 1, 1)
		if c.ok {
			want, _ = deltaJoinByForm(c.b, c.db, c.a, c.da, 1, 1)
		}
		wantTold(t, "y, "+c.name, got, ok, want, c.ok)
	}
	got, ok := impl.DeltaJoin(mixed, mixed, mixed, mixed, 0, 0)
	wantText(t, "a place of all", got, ok, "1,2,1,2*3 3,3*3")
}

func TestDeltaJoinOfWrongItems(t *testing.T) {
	for name, z := range wrongItems() {
		for at := range 4 {
			for _, other := range [][]impl.Item{nil, many(500, 2, 1)} {
				in := [4][]impl.Item{other, other, other, other}
				in[at] = z
				got, ok := impl.DeltaJoin(in[0], in[1], in[2], in[3], 0, 0)
				wantNone(t, fmt.Sprint(name, " at ", at), got, ok)
			}
		}
	}
}

// someTurned is lists of rows so wide, of a few cells and small weights, so that most of what is joined of them can be told.
func someTurned(r *rand.Rand, wide int, most int) []impl.Item {
	var z []impl.Item
	for range r.Intn(most + 1) {
		row := make([]int, wide)
		for i := range row {
			row[i] = r.Intn(3) - 1
		}
		z = append(z, impl.Item{Row: row, W: []int{-2, -1, 1, 2, 3}[r.Intn(5)]})
	}
	sum, _ := sumByForm(z)
	return sum
}

// TestDeltaJoinAgainstJoins asks for just what is joined then without what was joined, wherever that can be told.
func TestDeltaJoinAgainstJoins(t *testing.T) {
	r := rand.New(rand.NewSource(61))
	told, turned := 0, 0
	for range 6000 {
		wideA, wideB := 1+r.Intn(3), 1+r.Intn(3)
		a, da, b, db := someTurned(r, wideA, 6), someTurned(r, wideA, 4), someTurned(r, wideB, 6), someTurned(r, wideB, 4)
		x, y := r.Intn(wideA), r.Intn(wideB)
		thenA, _ := addByForm(a, da)
		thenB, _ := addByForm(b, db)
		was, wasOk := impl.JoinOf(a, b, x, y)
		then, thenOk := impl.JoinOf(thenA, thenB, x, y)
		want, wantOk := withoutByForm(then, was)
		if !wasOk || !thenOk {
			continue
		}
		got, ok := impl.DeltaJoin(a, da, b, db, x, y)
		wantTold(t, fmt.Sprint(a, da, b, db, x, y), got, ok, want, wantOk)
		if wantJoinTurned(t, a, da, b, db, x, y) {
			told++
			turned += min(1, len(got))
		}
	}
	if told < 4000 || turned < 2000 {
		t.Error("too few were told:", told, turned)
	}
}

func TestDeltaJoinOfAll(t *testing.T) {
	lists := append(someItems(), smallItems()[:40]...)
	for _, z := range wrongItems() {
		lists = append(lists, z)
	}
	r := rand.New(rand.NewSource(62))
	some := func() []impl.Item { return lists[r.Intn(len(lists))] }
	told := 0
	for range 8000 {
		a, da, b, db := some(), some(), some(), some()
		at := [][2]int{{0, 0}, {0, 0}, {0, 1}, {1, 0}, {2, 3}, {5, 5}, {6, 0}, {0, -1}}[r.Intn(8)]
		switch r.Intn(4) {
		case 0:
			da = nil
		case 1:
			db = nil
		}
		got, ok := impl.DeltaJoin(a, da, b, db, at[0], at[1])
		want, wantOk := deltaJoinByForm(a, da, b, db, at[0], at[1])
		wantTold(t, fmt.Sprint(a, da, b, db, at), got, ok, want, wantOk)
		if len(got) > 0 {
			told++
		}
	}
	if told < 100 {
		t.Error("too few were told:", told)
	}
}

func TestDeltaOnceRows(t *testing.T) {
	for _, c := range []struct{ z, d, want string }{
		{"1*2 2*1", "1*-1 2*-1 3*2", "2*-1 3*1"},
		{"", "", ""}, {"1*1 2*-1", "", ""}, {"", "1*3 2*-3", "1*1"},
		{"1*1", "1*5", ""}, {"1*5", "1*-4", ""}, {"1*5", "1*-5", "1*-1"}, {"1*5", "1*-6", "1*-1"}, {"1*1", "1*-2", "1*-1"},
		{"1*-2", "1*1", ""}, {"1*-2", "1*2", ""}, {"1*-2", "1*3", "1*1"}, {"1*-2", "1*-1", ""},
		{"", "1*-1", ""}, {"2*1", "1*1 1,1*1 3*1", "1*1 1,1*1 3*1"},
		{"1,2*1 3*10000", "1,2*-1 3*-10000", "1,2*-1 3*-1"},
		{"1*9999", "1*1", ""}, {"1*-9999", "1*-1", ""}, {"1*-10000", "1*10000", ""}, {"1*-5000", "1*10000", "1*1"},
	} {
		z, d := read(t, c.z), read(t, c.d)
		got, ok := impl.DeltaOnce(z, d)
		wantText(t, fmt.Sprint(c), got, ok, c.want)
		then, _ := impl.ZAdd(z, d)
		wantTurned(t, fmt.Sprint(c), impl.ZPos(z), got, impl.ZPos(then))
	}
}

func TestDeltaOnceBounds(t *testing.T) {
	for _, c := range []struct {
		name    string
		z, d    []impl.Item
		want    []impl.Item
		canTell bool
	}{
		{"100 that come", nil, many(0, 100, 3), many(0, 100, 1), true},
		{"100 that go", many(0, 100, 3), many(0, 100, -3), many(0, 100, -1), true},
		{"100 that are missing then", many(0, 100, 3), many(0, 100, -9), many(0, 100, -1), true},
		{"50 that go and 50 that come", many(0, 50, 1), append(many(0, 50, -1), many(50, 50, 2)...), append(many(0, 50, -1), many(50, 50, 1)...), true},
		{"one goes and one comes, of 100", many(0, 100, 1), append(many(0, 1, -1), many(100, 1, 1)...), append(many(0, 1, -1), many(100, 1, 1)...), true},
		{"101 then", many(0, 100, 1), many(100, 1, 1), nil, false},
		{"101 then, one of them missing", many(0, 100, 1), many(100, 1, -1), nil, false},
		{"101 then, though one goes", many(0, 100, 1), append(many(0, 1, -1), many(100, 2, 1)...), nil, false},
		{"a weight of 10000", many(1, 1, 9999), many(1, 1, 1), nil, true},
		{"a weight of 10001", many(1, 1, 10000), many(1, 1, 1), nil, false},
		{"a weight of -10000", many(1, 1, 1), many(1, 1, -10000), many(1, 1, -1), true},
		{"a weight of -10001", many(1, 1, -1), many(1, 1, -10000), nil, false},
	} {
		got, ok := impl.DeltaOnce(c.z, c.d)
		wantTold(t, c.name, got, ok, c.want, c.canTell)
	}
	for name, wrong := range wrongItems() {
		for _, other := range [][]impl.Item{nil, many(500, 2, 1), wrong} {
			got, ok := impl.DeltaOnce(wrong, other)
			wantNone(t, name+" in z", got, ok)
			got, ok = impl.DeltaOnce(other, wrong)
			wantNone(t, name+" in d", got, ok)
		}
	}
}

func TestDeltaOnceOfAll(t *testing.T) {
	lists := append(someItems(), smallItems()[:300]...)
	for _, z := range lists {
		for _, d := range lists {
			got, ok := impl.DeltaOnce(z, d)
			want, wantOk := deltaOnceByForm(z, d)
			wantTold(t, fmt.Sprint(z, d), got, ok, want, wantOk)
			if then, thenOk := impl.ZAdd(z, d); thenOk {
				wantTurned(t, fmt.Sprint("once ", z, d), impl.ZPos(z), got, impl.ZPos(then))
			}
		}
	}
}

// aggWords names what is reckoned of groups, for what a test tells.
var aggWords = []string{"count", "sum", "least", "most"}

// wantGroups is wantText of each of the four that is reckoned of groups, held against GroupOf, too, where that can be told.
func wantGroups(t *testing.T, z, d string, keys []int, at int, want [4]string) {
	t.Helper()
	for agg, text := range want {
		what := fmt.Sprint(aggWords[agg], " of ", z, " and ", d, " by ", keys, " at ", at)
		got, ok := impl.DeltaGroup(read(t, z), read(t, d), keys, agg, at)
		wantText(t, what, got, ok, text)
		if !wantGroupTurned(t, read(t, z), read(t, d), keys, agg, at) {
			t.Fatal(what, "can not be held against GroupOf")
		}
	}
}

func TestDeltaGroupRows(t *testing.T) {
	z := "1,10*2 1,20*1 2,5*1 3,7*-1"
	wantGroups(t, z, "1,10*-2 1,30*1", []int{0}, 1, [4]string{"1,2*1 1,3*-1", "1,40*-1 1,50*1", "1,10*-1 1,20*1", "1,20*-1 1,30*1"})
	wantGroups(t, z, "1,10*-1 2,5*3", []int{0}, 1, [4]string{"1,2*1 1,3*-1 2,1*-1 2,4*1", "1,30*1 1,40*-1 2,5*-1 2,20*1", "", ""})
	wantGroups(t, z, "2,-6*1", []int{0}, 1, [4]string{"2,1*-1 2,2*1", "2,-1*1 2,5*-1", "2,-6*1 2,5*-1", ""})
	wantGroups(t, z, "1,10*-1 2,9*1", []int{1}, 0, [4]string{"9,1*1 10,1*1 10,2*-1", "9,2*1 10,1*1 10,2*-1", "9,2*1", "9,2*1"})
	wantGroups(t, z, "1,10*1", []int{1, 0}, 0, [4]string{"10,1,2*-1 10,1,3*1", "10,1,2*-1 10,1,3*1", "", ""})
	wantGroups(t, z, "1,10*-2", []int{0, 1}, 1, [4]string{"1,10,2*-1", "1,10,20*-1", "1,10,10*-1", "1,10,10*-1"})
}

// TestDeltaGroupWithoutKeys has one group of all rows.
func TestDeltaGroupWithoutKeys(t *testing.T) {
	for _, keys := range [][]int{nil, {}} {
		wantGroups(t, "1,10*2 2,5*1", "3,-4*1", keys, 1, [4]string{"3*-1 4*1", "21*1 25*-1", "-4*1 5*-1", ""})
		wantGroups(t, "1,10*2 2,5*1", "1,10*-2 2,5*-1", keys, 1, [4]string{"3*-1", "25*-1", "5*-1", "10*-1"})
		wantGroups(t, "", "1,10*2 2,5*1", keys, 1, [4]string{"3*1", "25*1", "5*1", "10*1"})
		wantGroups(t, "1,10*2 2,5*1", "", keys, 1, [4]string{})
		wantGroups(t, "1,10*-2", "1,10*1", keys, 1, [4]string{})
	}
}

// TestDeltaGroupThatLosesItsLeast takes the least and the greatest away, in whole, in part, and one of two that are as little.
func TestDeltaGroupThatLosesItsLeast(t *testing.T) {
	z := "1,1,3*1 1,2,3*1 1,3,5*2 1,4,9*1 1,5,9*1 2,0,4*1"
	for d, want := range map[string][2]string{
		"1,1,3*-1":                     {"", ""},
		"1,2,3*-1":                     {"", ""},
		"1,1,3*-1 1,2,3*-1":            {"1,3*-1 1,5*1", ""},
		"1,1,3*-5 1,2,3*-1":            {"1,3*-1 1,5*1", ""},
		"1,4,9*-1":                     {"", ""},
		"1,4,9*-1 1,5,9*-1":            {"", "1,5*1 1,9*-1"},
		"1,1,3*-1 1,2,3*-1 1,3,5*-1":   {"1,3*-1 1,5*1", ""},
		"1,1,3*-1 1,2,3*-1 1,3,5*-2":   {"1,3*-1 1,9*1", ""},
		"1,1,3*-1 1,2,3*-1 1,9,3*1":    {"", ""},
		"1,1,3*-1 1,2,3*-1 1,9,-3*1":   {"1,-3*1 1,3*-1", ""},
		"1,1,3*-1 1,2,3*-1 1,9,4*1":    {"1,3*-1 1,4*1", ""},
		"1,4,9*-1 1,5,9*-1 1,9,12*1":   {"", "1,9*-1 1,12*1"},
		"1,0,0*-1 1,9,20*-1":           {"", ""},
		"2,0,4*-1":                     {"2,4*-1", "2,4*-1"},
		"2,0,4*-1 2,0,5*1":             {"2,4*-1 2,5*1", "2,4*-1 2,5*1"},
		"1,1,3*-1 1,2,3*-1 2,1,-9*7":   {"1,3*-1 1,5*1 2,-9*1 2,4*-1", ""},
		"1,1,3*10 1,4,9*10":            {"", ""},
		"1,1,3*-1 1,2,3*-1 1,3,5*9998": {"1,3*-1 1,5*1", ""},
	} {
		for i, agg := range []int{impl.AggLeast, impl.AggMost} {
			got, ok := impl.DeltaGroup(read(t, z), read(t, d), []int{0}, agg, 2)
			wantText(t, fmt.Sprint(d, " agg ", agg), got, ok, want[i])
			if !wantGroupTurned(t, read(t, z), read(t, d), []int{0}, agg, 2) {
				t.Error(d, "can not be held against GroupOf")
			}
		}
	}
}

// TestDeltaGroupThatComesOrGoes has groups that are empty then, that are new, and of which all is as it was.
func TestDeltaGroupThatComesOrGoes(t *testing.T) {
	z := "1,4*2 2,5*1 2,6*1 3,7*-2"
	keys := []int{0}
	wantGroups(t, z, "", keys, 1, [4]string{})
	wantGroups(t, "", "", keys, 1, [4]string{})
	wantGroups(t, z, "1,4*-2", keys, 1, [4]string{"1,2*-1", "1,8*-1", "1,4*-1", "1,4*-1"})
	wantGroups(t, z, "1,4*-3", keys, 1, [4]string{"1,2*-1", "1,8*-1", "1,4*-1", "1,4*-1"})
	wantGroups(t, z, "2,5*-1 2,6*-1", keys, 1, [4]string{"2,2*-1", "2,11*-1", "2,5*-1", "2,6*-1"})
	wantGroups(t, z, "2,5*-1 2,6*-2 2,7*-1", keys, 1, [4]string{"2,2*-1", "2,11*-1", "2,5*-1", "2,6*-1"})
	wantGroups(t, z, "4,9*3", keys, 1, [4]string{"4,3*1", "4,27*1", "4,9*1", "4,9*1"})
	wantGroups(t, z, "0,9*1 4,-9*1", keys, 1, [4]string{"0,1*1 4,1*1", "0,9*1 4,-9*1", "0,9*1 4,-9*1", "0,9*1 4,-9*1"})
	wantGroups(t, z, "3,7*2", keys, 1, [4]string{})
	wantGroups(t, z, "3,7*3", keys, 1, [4]string{"3,1*1", "3,7*1", "3,7*1", "3,7*1"})
	wantGroups(t, z, "3,7*1 4,1*-1 5,5*-10000", keys, 1, [4]string{})
	wantGroups(t, z, "2,7*-1", keys, 1, [4]string{})
	wantGroups(t, z, "1,4*-1 1,8*1", keys, 1, [4]string{"", "1,8*-1 1,12*1", "", "1,4*-1 1,8*1"})
	wantGroups(t, z, "2,4*1 2,5*-1 2,6*-1 2,7*1", keys, 1, [4]string{"", "", "2,4*1 2,5*-1", "2,6*-1 2,7*1"})
}

func TestDeltaGroupSums(t *testing.T) {
	for _, c := range []struct {
		z, d string
		want string
		ok   bool
	}{
		{"1,999999999*1", "1,1*1", "1,999999999*-1 1,1000000000*1", true},
		{"1,1000000000*1", "1,1*1", "", false},
		{"1,1000000000*1", "1,0*1", "", true},
		{"1,1000000000*1", "1,-1*1", "1,999999999*1 1,1000000000*-1", true},
		{"1,1000000000*1", "1,1000000000*1", "", false},
		{"1,-999999999*1", "1,-1*1", "1,-1000000000*1 1,-999999999*-1", true},
		{"1,-1000000000*1", "1,-1*1", "", false},
		{"1,100000*9999", "1,100000*1", "1,999900000*-1 1,1000000000*1", true},
		{"1,100001*9999", "1,100000*1", "", false},
		{"1,1000000000*2", "1,1000000000*-1", "", false},
		{"1,1000000000*2", "1,1000000000*-2", "", false},
		{"1,1*1 1,1000000000*1", "1,1*-1", "", false},
		{"1,-1000000000*2", "1,-1000000000*-1", "", false},
		{"1,1000000000*-2", "1,1000000000*3", "1,1000000000*1", true},
		{"", "1,1000000000*1", "1,1000000000*1", true},
		{"", "1,1000000000*2", "", false},
		{"1,1000000000*2", "", "", true},
		{"1,1000000000*2", "2,5*1", "2,5*1", true},
		{"1,1000000000*2 2,5*1", "2,5*-1", "2,5*-1", true},
		{"1,-1000000000*2 2,5*1 3,1000000000*10000", "2,6*1", "2,5*-1 2,11*1", true},
		{"1,1000000000*2 2,5*1", "1,0*-1 2,6*1", "", false},
		{"1,1000000000*10000", "1,-1000000000*10000", "", false},
		{"1,-1000000000*9999 1,1000000000*10000", "1,-1000000000*1", "1,0*1 1,1000000000*-1", true},
	} {
		got, ok := impl.DeltaGroup(read(t, c.z), read(t, c.d), []int{0}, impl.AggSum, 1)
		wantTold(t, fmt.Sprint(c), got, ok, read(t, c.want), c.ok)
	}
	// Of the others of Agg nothing is too great.
	for agg, want := range map[int]string{impl.AggCount: "1,2*-1 1,3*1", impl.AggLeast: "", impl.AggMost: ""} {
		got, ok := impl.DeltaGroup(read(t, "1,1000000000*2"), read(t, "1,1000000000*1"), []int{0}, agg, 1)
		wantText(t, aggWords[agg], got, ok, want)
	}
	got, ok := impl.DeltaGroup(many(0, 100, 9999), many(0, 100, 1), nil, impl.AggCount, 0)
	wantText(t, "all weights", got, ok, "999900*-1 1000000*1")
}

func TestDeltaGroupRowsThatAreTold(t *testing.T) {
	for _, c := range []struct {
		name string
		z, d []impl.Item
		told [4]int
	}{
		{"50 that are turned", many(1, 50, 1), many(1, 50, 1), [4]int{100, 100, 0, 0}},
		{"50, and one that is new", many(1, 50, 1), many(1, 51, 1), [4]int{-1, -1, 1, 1}},
		{"49, and two that are new", many(1, 49, 1), many(1, 51, 1), [4]int{100, 100, 2, 2}},
		{"51 that are turned", many(1, 51, 1), many(1, 51, 1), [4]int{-1, -1, 0, 0}},
		{"100 that are turned", many(1, 100, 1), many(1, 100, 1), [4]int{-1, -1, 0, 0}},
		{"100 that are new", nil, many(1, 100, 1), [4]int{100, 100, 100, 100}},
		{"100 that are empty then", many(1, 100, 1), many(1, 100, -1), [4]int{100, 100, 100, 100}},
		{"50 of 100", many(1, 100, 1), many(1, 50, 1), [4]int{100, 100, 0, 0}},
		{"51 of 100", many(1, 100, 1), many(1, 51, 1), [4]int{-1, -1, 0, 0}},
		{"100 and 1", many(1, 100, 1), many(101, 1, 1), [4]int{-1, -1, -1, -1}},
		{"99 and 1", many(1, 99, 1), many(100, 1, 1), [4]int{1, 1, 1, 1}},
	} {
		for agg, told := range c.told {
			got, ok := impl.DeltaGroup(c.z, c.d, []int{0}, agg, 0)
			want, wantOk := deltaGroupByForm(c.z, c.d, []int{0}, agg, 0)
			wantTold(t, c.name, got, ok, want, wantOk)
			if ok != (told >= 0) || len(got) != max(0, told) {
				t.Errorf("%s, %s: %d rows, %v; want %d", c.name, aggWords[agg], len(got), ok, told)
			}
		}
	}
}

// keysOfSix is keys of rows of six cells, and whether they are such.
func keysOfSix() []struct {
	keys []int
	ok   bool
} {
	return []struct {
		keys []int
		ok   bool
	}{
		{nil, true}, {[]int{}, true}, {[]int{0}, true}, {[]int{5}, true}, {[]int{3, 0}, true}, {[]int{0, 1, 2, 3, 4}, true}, {[]int{5, 4, 3, 2, 1}, true},
		{[]int{0, 1, 2, 3, 4, 5}, false}, {[]int{0, 0}, false}, {[]int{1, 2, 1}, false}, {[]int{0, 1, 2, 3, 3}, false}, {[]int{6}, false}, {[]int{-1}, false}, {[]int{0, -1}, false}, {[]int{0, 6}, false},
		{[]int{math.MinInt}, false}, {[]int{math.MaxInt}, false}, {make([]int, 100000), false},
	}
}

func TestDeltaGroupKeys(t *testing.T) {
	six, more := read(t, "1,2,3,4,5,6*2"), read(t, "1,2,3,4,5,6*1 1,2,3,4,5,7*-1")
	for _, c := range keysOfSix() {
		for agg := range 4 {
			for _, in := range [][2][]impl.Item{{six, more}, {six, nil}, {nil, more}, {nil, nil}, {more, six}} {
				got, ok := impl.DeltaGroup(in[0], in[1], c.keys, agg, 1)
				want, _ := deltaGroupByForm(in[0], in[1], c.keys, agg, 1)
				wantTold(t, fmt.Sprint("keys ", c.keys[:min(7, len(c.keys))], in), got, ok, want, c.ok)
			}
		}
	}
	got, ok := impl.DeltaGroup(six, more, []int{0, 1, 2, 3, 4}, impl.AggCount, 0)
	wantText(t, "five keys", got, ok, "1,2,3,4,5,2*-1 1,2,3,4,5,3*1")
	got, ok = impl.DeltaGroup(six, more, []int{5, 0}, impl.AggCount, 0)
	wantText(t, "two keys", got, ok, "6,1,2*-1 6,1,3*1")
}

// TestDeltaGroupPlaceOfSomeRows has a key, and a col, that some rows have not, near and not near, also such as are not there then.
func TestDeltaGroupPlaceOfSomeRows(t *testing.T) {
	for _, c := range []struct{ name, z, d string }{
		{"of z, near", "1*1 1,2*1", "1,3*1"},
		{"of z, not near", "1,2*1 2*1", "1,3*1"},
		{"of z, missing", "1,2*1 2*-1", "1,3*1"},
		{"of z, nothing turned", "1,2*1 2*1", ""},
		{"of z, which goes", "1,2*1 2*1", "2*-1"},
		{"of d", "1,2*1", "1*1 1,2*1"},
		{"of d, of no group of z", "1,2*1", "2*1"},
		{"of d, missing", "1,2*1", "2*-1"},
		{"of d alone", "", "1*1 1,2*1"},
		{"of both, which goes", "1*1", "1*-1"},
	} {
		z, d := read(t, c.z), read(t, c.d)
		for agg := range 4 {
			for _, keys := range [][]int{{1}, {0, 1}, {1, 0}} {
				got, ok := impl.DeltaGroup(z, d, keys, agg, 0)
				wantNone(t, fmt.Sprint("keys ", keys, ", ", c.name), got, ok)
			}
			for _, keys := range [][]int{nil, {0}} {
				got, ok := impl.DeltaGroup(z, d, keys, agg, 1)
				wantNone(t, fmt.Sprint("col 1, keys ", keys, ", ", c.name), got, ok)
			}
			got, ok := impl.DeltaGroup(z, d, []int{0}, agg, 0)
			want, _ := deltaGroupByForm(z, d, []int{0}, agg, 0)
			wantTold(t, "a place of all, "+c.name, got, ok, want, true)
		}
		for _, keys := range [][]int{{1}, {0, 1}, {1, 0}} {
			wantTold(t, fmt.Sprint("near, keys ", keys, ", ", c.name), impl.DeltaNear(z, d, keys), true, nil, true)
		}
	}
	got, ok := impl.DeltaGroup(read(t, "1*1 2,1*1"), read(t, "1,2*1 3,1,1*1"), []int{0}, impl.AggCount, 0)
	wantText(t, "rows of several widths in a group", got, ok, "1,1*-1 1,2*1 3,1*1")
}

func TestDeltaGroupColsAndAggs(t *testing.T) {
	z, d := read(t, "1,7*2 2,8*1"), read(t, "1,9*1")
	for _, at := range []int{math.MinInt, -1, 0, 1, 2, 5, 6, math.MaxInt} {
		good := at == 0 || at == 1
		for agg := range 4 {
			for _, in := range [][2][]impl.Item{{z, d}, {z, nil}, {nil, d}} {
				got, ok := impl.DeltaGroup(in[0], in[1], []int{0}, agg, at)
				want, _ := deltaGroupByForm(in[0], in[1], []int{0}, agg, at)
				wantTold(t, fmt.Sprint("col ", at, in), got, ok, want, good)
			}
			got, ok := impl.DeltaGroup(nil, nil, []int{0}, agg, at)
			wantText(t, fmt.Sprint("col ", at, " of no rows"), got, ok, "")
		}
	}
	for _, agg := range []int{math.MinInt, -1, 4, 5, math.MaxInt} {
		for _, in := range [][2][]impl.Item{{z, d}, {z, nil}, {nil, d}, {nil, nil}} {
			got, ok := impl.DeltaGroup(in[0], in[1], []int{0}, agg, 0)
			wantNone(t, fmt.Sprint("agg ", agg, in), got, ok)
		}
	}
}

func TestDeltaGroupTooMuch(t *testing.T) {
	for agg := range 4 {
		for name, in := range map[string][2][]impl.Item{
			"a weight of 10001":            {many(1, 1, 10000), many(1, 1, 1)},
			"one of -10001":                {many(1, 1, -10000), many(1, 1, -1)},
			"101 rows then":                {many(0, 100, 1), many(100, 1, 1)},
			"101, some of which are there": {many(0, 51, 1), many(50, 51, -1)[1:]},
		} {
			got, ok := impl.DeltaGroup(in[0], in[1], nil, agg, 0)
			want, wantOk := deltaGroupByForm(in[0], in[1], nil, agg, 0)
			wantTold(t, name, got, ok, want, wantOk)
			if wantOk {
				t.Error(name, "is not too much")
			}
		}
		got, ok := impl.DeltaGroup(many(1, 1, 9999), many(1, 1, 1), nil, agg, 0)
		wantText(t, "a weight of 10000", got, ok, []string{"9999*-1 10000*1", "9999*-1 10000*1", "", ""}[agg])
		for name, wrong := range wrongItems() {
			for _, other := range [][]impl.Item{nil, many(500, 2, 1), wrong} {
				got, ok := impl.DeltaGroup(wrong, other, nil, agg, 0)
				wantNone(t, name+" in z", got, ok)
				got, ok = impl.DeltaGroup(other, wrong, nil, agg, 0)
				wantNone(t, name+" in d", got, ok)
			}
		}
	}
}

// TestDeltaGroupAgainstGroups asks for just the groups then without those that were, wherever these can be told.
func TestDeltaGroupAgainstGroups(t *testing.T) {
	r := rand.New(rand.NewSource(63))
	told, turned := 0, [4]int{}
	for range 6000 {
		wide := 1 + r.Intn(4)
		z, d := someTurned(r, wide, 9), someTurned(r, wide, 5)
		keys, agg, at := r.Perm(wide)[:r.Intn(wide+1)], r.Intn(4), r.Intn(wide)
		all, _ := addByForm(z, d)
		was, wasOk := impl.GroupOf(z, keys, agg, at)
		then, thenOk := impl.GroupOf(all, keys, agg, at)
		if !wasOk || !thenOk {
			t.Fatal(z, d, keys, agg, at)
		}
		want, wantOk := withoutByForm(then, was)
		got, ok := impl.DeltaGroup(z, d, keys, agg, at)
		wantTold(t, fmt.Sprint(z, d, keys, agg, at), got, ok, want, wantOk)
		if wantGroupTurned(t, z, d, keys, agg, at) {
			told++
			turned[agg] += min(1, len(got))
		}
	}
	if told < 5000 || slices.Min(turned[:]) < 500 {
		t.Error("too few were told:", told, turned)
	}
}

func TestDeltaGroupOfAll(t *testing.T) {
	lists := append(someItems(), smallItems()[:60]...)
	for _, z := range wrongItems() {
		lists = append(lists, z)
	}
	allKeys := [][]int{nil, {0}, {0}, {1}, {0, 1}, {1, 0}, {2, 0}, {3, 1, 2}, {0, 1, 2, 3, 4}, {5}, {6}, {-1}, {1, 1}, {0, 1, 2, 3, 4, 5}}
	r := rand.New(rand.NewSource(64))
	told := 0
	for _, z := range lists {
		for _, d := range lists {
			for range 4 {
				keys, agg, at := allKeys[r.Intn(len(allKeys))], r.Intn(4), r.Intn(2)
				if r.Intn(8) == 0 {
					agg, at = r.Intn(6)-1, r.Intn(8)-1
				}
				got, ok := impl.DeltaGroup(z, d, keys, agg, at)
				want, wantOk := deltaGroupByForm(z, d, keys, agg, at)
				wantTold(t, fmt.Sprint(z, d, keys, agg, at), got, ok, want, wantOk)
				wantTold(t, fmt.Sprint("near ", z, d, keys), impl.DeltaNear(z, d, keys), true, deltaNearByForm(z, d, keys), true)
				if len(got) > 0 {
					told++
				}
			}
		}
	}
	if told < 1000 {
		t.Error("too few were told:", told)
	}
}

func TestDeltaNearRows(t *testing.T) {
	z := "1,10,5*2 1,20,6*-1 2,10,5*10000 3,30,5*-10000"
	for _, c := range []struct {
		d    string
		keys []int
		want string
	}{
		{"1,7,7*1", []int{0}, "1,10,5*2 1,20,6*-1"},
		{"1,7,7*-1", []int{0}, "1,10,5*2 1,20,6*-1"},
		{"1,7,7*1 1,8,8*1 3,0,0*1", []int{0}, "1,10,5*2 1,20,6*-1 3,30,5*-10000"},
		{"9,10,0*1", []int{1}, "1,10,5*2 2,10,5*10000"},
		{"9,10,0*1", []int{0, 1}, ""},
		{"2,10,0*1", []int{1, 0}, "2,10,5*10000"},
		{"1,20,5*1", []int{0, 2}, "1,10,5*2"},
		{"1,10,5*-2", []int{0, 1, 2}, "1,10,5*2"},
		{"4,4,4*1", []int{0}, ""},
		{"", []int{0}, ""},
		{"", nil, ""},
		{"4,4,4*-1", nil, "1,10,5*2 1,20,6*-1 2,10,5*10000 3,30,5*-10000"},
		{"4,4,4*1", []int{}, "1,10,5*2 1,20,6*-1 2,10,5*10000 3,30,5*-10000"},
		{"4,4,5*1", []int{2}, "1,10,5*2 2,10,5*10000 3,30,5*-10000"},
	} {
		wantText(t, fmt.Sprint(c), impl.DeltaNear(read(t, z), read(t, c.d), c.keys), true, c.want)
		wantText(t, fmt.Sprint(c, " of none"), impl.DeltaNear(nil, read(t, c.d), c.keys), true, "")
	}
	wantText(t, "rows of several widths", impl.DeltaNear(read(t, "1*1 1,5*1 2,6*1 3*1"), read(t, "1,1,1*1 3*1"), []int{0}), true, "1*1 1,5*1 3*1")
	wantTold(t, "100 rows and 100", impl.DeltaNear(many(0, 100, 10000), many(0, 100, -10000), []int{0}), true, many(0, 100, 10000), true)
	wantTold(t, "what is too much together", impl.DeltaNear(many(0, 100, 1), many(50, 100, 1), []int{0}), true, many(50, 50, 1), true)
	// Cells whose signs run into each other if nothing is between them.
	wantText(t, "signs", impl.DeltaNear(read(t, "1,-1*1 1,11*2 11,-1*3 11,1*4 111,1*5"), read(t, "1,11*1 11,-1*1"), []int{0, 1}), true, "1,11*2 11,-1*3")
}

func TestDeltaNearWrong(t *testing.T) {
	six, more := read(t, "1,2,3,4,5,6*2"), read(t, "1,2,3,4,5,6*1")
	for _, c := range keysOfSix() {
		var want []impl.Item
		if c.ok {
			want = six
		}
		wantTold(t, fmt.Sprint("keys ", c.keys[:min(7, len(c.keys))]), impl.DeltaNear(six, more, c.keys), true, want, true)
	}
	for name, wrong := range wrongItems() {
		wantText(t, name+" in z", impl.DeltaNear(wrong, many(1, 1, 1), nil), true, "")
		wantText(t, name+" in d", impl.DeltaNear(many(1, 1, 1), wrong, nil), true, "")
		wantText(t, name+" in both", impl.DeltaNear(wrong, wrong, nil), true, "")
	}
}

// TestDeltaAlways asks for the same answer again and again: a map is gone through in another order each time.
func TestDeltaAlways(t *testing.T) {
	z, d := many(0, 100, 1), many(0, 50, 1)
	first, ok := impl.DeltaGroup(z, d, []int{0}, impl.AggCount, 0)
	if !ok || len(first) != 100 {
		t.Fatal(first, ok)
	}
	for range 50 {
		again, ok := impl.DeltaGroup(z, d, []int{0}, impl.AggCount, 0)
		wantTold(t, "again", again, ok, first, true)
	}
}

// deltaCalls is each function of what is turned, called with four lists, by name.
func deltaCalls() map[string]func(in [4][]impl.Item) []impl.Item {
	calls := map[string]func(in [4][]impl.Item) []impl.Item{
		"DeltaJoin": func(in [4][]impl.Item) []impl.Item {
			z, _ := impl.DeltaJoin(in[0], in[1], in[2], in[3], 0, 0)
			return z
		},
		"DeltaOnce": func(in [4][]impl.Item) []impl.Item {
			z, _ := impl.DeltaOnce(in[0], in[1])
			return z
		},
		"DeltaNear":         func(in [4][]impl.Item) []impl.Item { return impl.DeltaNear(in[0], in[1], []int{0}) },
		"DeltaNear of none": func(in [4][]impl.Item) []impl.Item { return impl.DeltaNear(in[0], in[1], nil) },
	}
	for agg := range 4 {
		calls[fmt.Sprint("DeltaGroup ", agg)] = func(in [4][]impl.Item) []impl.Item {
			z, _ := impl.DeltaGroup(in[0], in[1], []int{0}, agg, 0)
			return z
		}
	}
	return calls
}

func TestDeltaIsNewMemory(t *testing.T) {
	lists := [][]impl.Item{nil, read(t, "1*1 1,2,3*-2 3*5"), read(t, "1*-1 2,2*1"), many(0, 40, 2), wrongItems()["not in order"]}
	for name, call := range deltaCalls() {
		for code := range 625 {
			var in [4][]impl.Item
			var was [4][]impl.Item
			for i, n := 0, code; i < 4; i, n = i+1, n/5 {
				in[i] = roomy(lists[n%5])
				was[i] = allOf(in[i])
			}
			got, again := call(in), call(in)
			want := copied(again)
			spoil(got)
			for i := range in {
				if !sameItems(allOf(in[i]), was[i]) {
					t.Fatalf("%s of %v changes its list %d, or shares memory with it", name, was, i)
				}
			}
			if !sameItems(again, want) {
				t.Fatalf("%s of %v: two answers share memory", name, was)
			}
			for i := range in {
				spoil(in[i])
			}
			if !sameItems(again, want) {
				t.Fatalf("%s of %v keeps memory of what it was given", name, was)
			}
		}
	}
}

// TestDeltaOfOneList is given the same memory several times over.
func TestDeltaOfOneList(t *testing.T) {
	z := roomy(read(t, "1*1 1,2,3*-2 3*5"))
	was := allOf(z)
	for name, call := range deltaCalls() {
		got := call([4][]impl.Item{z, z, z, z})
		apart := call([4][]impl.Item{copied(z), copied(z), copied(z), copied(z)})
		if !sameItems(got, apart) || !sameItems(allOf(z), was) {
			t.Errorf("%s: %v; want %v", name, got, apart)
		}
	}
}

// TestDeltaRowsAreApart writes into one row of an answer, behind its end too, and looks at the others.
func TestDeltaRowsAreApart(t *testing.T) {
	in := [4][]impl.Item{read(t, "1*1 1,2,3*2 2,2*4 3*5"), read(t, "0*1 1*2 2,2*-4 3,3,3*-1 4*1"), read(t, "1*2 1,2*3 2,3,3*1 3,3*-1"), read(t, "1*2 2,2*1 4*1")}
	for name, call := range deltaCalls() {
		z := call(in)
		if len(z) < 2 {
			t.Fatal(name, z)
		}
		for at := range z {
			was := copied(z)
			spoilRow(z[at].Row)
			for i := range z {
				if i != at && !slices.Equal(z[i].Row, was[i].Row) {
					t.Errorf("%s: the rows at %d and %d share memory", name, at, i)
				}
			}
			z[at].Row = was[at].Row
		}
	}
}

func TestDeltaChangesNoKeys(t *testing.T) {
	keys := []int{1, 0, 7, 8}
	z, d := read(t, "1,2*1 2,1*1"), read(t, "1,2*-1 3,3*1")
	for agg := range 4 {
		got, _ := impl.DeltaGroup(z, d, keys[:2], agg, 0)
		near := impl.DeltaNear(z, d, keys[:2])
		if !slices.Equal(keys, []int{1, 0, 7, 8}) {
			t.Fatal(keys)
		}
		want, wantNear := copied(got), copied(near)
		copy(keys, []int{99, 99, 99, 99})
		if !sameItems(got, want) || !sameItems(near, wantNear) {
			t.Error("an answer hangs on the memory of the keys:", got, near)
		}
		copy(keys, []int{1, 0, 7, 8})
	}
}
