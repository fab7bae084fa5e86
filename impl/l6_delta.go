package impl

// DeltaJoin is by how much what is joined is turned, as both lists are.
func DeltaJoin(a []Item, da []Item, b []Item, db []Item, x int, y int) ([]Item, bool) {
	if !ZOk(a) || !ZOk(da) || !ZOk(b) || !ZOk(db) {
		return nil, false
	}
	var turned []Item
	for _, sides := range [...][2][]Item{{da, b}, {a, db}, {da, db}} {
		first, second := sides[0], sides[1]
		if !canJoin(first, second, x, y) {
			return nil, false
		}
		// What is too much of two sides may be taken away again by the next two.
		turned = together(turned, gather(joined(first, second, x, y)))
	}
	return unlessTooMuch(turned)
}

// DeltaOnce is by how much what is there once is turned.
func DeltaOnce(z []Item, d []Item) ([]Item, bool) {
	then, ok := ZAdd(z, d)
	if !ok {
		return nil, false
	}
	return without(ZPos(then), ZPos(z))
}

// DeltaGroup is by how much groups are turned.
func DeltaGroup(z []Item, d []Item, keys []int, agg int, col int) ([]Item, bool) {
	all, ok := ZAdd(z, d)
	if !ok || !canBeNear(z, d, keys) || !allHave(z, col) || !allHave(d, col) {
		return nil, false
	}
	turned := groupTexts(d, keys)
	then, isTold := GroupOf(near(all, turned, keys), keys, agg, col)
	was, wasTold := GroupOf(near(z, turned, keys), keys, agg, col)
	if !isTold || !wasTold {
		return nil, false
	}
	return without(then, was)
}

// DeltaNear is the items of a list that are in a group of any of another list.
func DeltaNear(z []Item, d []Item, keys []int) []Item {
	if !ZOk(z) || !ZOk(d) || !canBeNear(z, d, keys) {
		return nil
	}
	return copyItems(near(z, groupTexts(d, keys), keys))
}

// without is only asked of items that are ok; it may still be too much.
func without(z []Item, gone []Item) ([]Item, bool) {
	return ZAdd(z, ZNeg(gone))
}

// canBeNear asks for the keys in each row, so that it hangs on no row's group whether they are right.
func canBeNear(z []Item, d []Item, keys []int) bool {
	return areKeys(keys, RowWide) && allHaveKeys(z, keys) && allHaveKeys(d, keys)
}

// groupTexts is how many rows there are of each group; a row that is missing has a group, too, as that is turned by it.
func groupTexts(d []Item, keys []int) map[string]int {
	texts := map[string]int{}
	for _, item := range d {
		texts[groupText(item.Row, keys)]++
	}
	return texts
}

// near is for looking at alone, as it shares memory with z.
func near(z []Item, turned map[string]int, keys []int) []Item {
	var kept []Item
	for _, item := range z {
		if turned[groupText(item.Row, keys)] > 0 {
			kept = append(kept, item)
		}
	}
	return kept
}
