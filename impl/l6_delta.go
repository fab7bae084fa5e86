package impl

// DeltaJoin is by how much what is joined is turned, as both lists are.
func DeltaJoin(a []Item, da []Item, b []Item, db []Item, x int, y int) ([]Item, bool) {
	return nil, false
}

// DeltaOnce is by how much what is there once is turned.
func DeltaOnce(z []Item, d []Item) ([]Item, bool) { return nil, false }

// DeltaGroup is by how much groups are turned.
func DeltaGroup(z []Item, d []Item, keys []int, agg int, col int) ([]Item, bool) { return nil, false }

// DeltaNear is the items of a list that are in a group of any of another list.
func DeltaNear(z []Item, d []Item, keys []int) []Item { return nil }
