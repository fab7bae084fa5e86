package tests

import (
	"fmt"
	"math"
	"math/rand"
	"slices"
	"strings"
	"testing"

	"loop.example/milldam/impl"
)

// storeText tells all parts of a store whose flows have an end.
func storeText(s impl.Store) string {
	text := fmt.Sprintf("%d..%d %v [%s]", s.Keep, s.Now, s.Wides, listsText(s.Tables))
	for _, v := range s.Views {
		text += fmt.Sprintf(" view since %d: %s from %q", v.Since, flowText(v.Flow), impl.ZText(v.Base))
		for _, past := range v.Pasts {
			text += fmt.Sprintf(", at %d %q", past.At, impl.ZText(past.Out))
		}
	}
	return text
}

func copiedStore(s impl.Store) impl.Store {
	c := impl.Store{Wides: slices.Clone(s.Wides), Tables: copiedLists(s.Tables), Now: s.Now, Keep: s.Keep}
	for _, v := range s.Views {
		c.Views = append(c.Views, copiedView(v))
	}
	return c
}

func copiedView(v impl.View) impl.View {
	c := impl.View{Flow: copiedFlow(v.Flow), Since: v.Since, Base: copied(v.Base)}
	for _, past := range v.Pasts {
		c.Pasts = append(c.Pasts, impl.Past{At: past.At, Out: copied(past.Out)})
	}
	return c
}

// changedStore is a copy of a store that is changed.
func changedStore(s impl.Store, change func(s *impl.Store)) impl.Store {
	c := copiedStore(s)
	change(&c)
	return c
}

// sameStores says, apart from the program, whether two stores whose flows have an end are one.
func sameStores(a impl.Store, b impl.Store) bool {
	return slices.Equal(a.Wides, b.Wides) && slices.EqualFunc(a.Tables, b.Tables, sameItems) && slices.EqualFunc(a.Views, b.Views, sameViews) && a.Now == b.Now && a.Keep == b.Keep
}

func sameViews(a impl.View, b impl.View) bool {
	return sameFlows(a.Flow, b.Flow) && a.Since == b.Since && sameItems(a.Base, b.Base) && slices.EqualFunc(a.Pasts, b.Pasts, func(x, y impl.Past) bool {
		return x.At == y.At && sameItems(x.Out, y.Out)
	})
}

func isNoStore(s impl.Store) bool {
	return len(s.Views) == 0 && sameStores(s, impl.Store{})
}

// storeOkByForm, viewAtByForm and the calls behind them are what is told, said apart from the program.
func storeOkByForm(s impl.Store) bool {
	if len(s.Tables) > 3 || len(s.Wides) != len(s.Tables) || len(s.Views) > 3 || s.Keep < 0 || s.Now < s.Keep || s.Now > 40 {
		return false
	}
	for n, z := range s.Tables {
		if s.Wides[n] < 1 || s.Wides[n] > 6 || !areWideByForm(z, s.Wides[n]) || someMissingByForm(z) {
			return false
		}
	}
	for _, v := range s.Views {
		if !flowOkByForm(v.Flow) || !viewOkByForm(v, s, wideByForm(v.Flow.Plan, s.Wides)) {
			return false
		}
	}
	return true
}

func viewOkByForm(v impl.View, s impl.Store, wide int) bool {
	if wide == -1 || v.Since < 0 || v.Since > s.Now || !areWideByForm(v.Base, wide) || len(v.Pasts) > 40 {
		return false
	}
	for i, past := range v.Pasts {
		if past.At <= v.Since || past.At <= s.Keep || past.At > s.Now || !areWideByForm(past.Out, wide) {
			return false
		}
		if i > 0 && past.At <= v.Pasts[i-1].At {
			return false
		}
	}
	return true
}

func areWideByForm(z []impl.Item, wide int) bool {
	for _, item := range z {
		if len(item.Row) != wide {
			return false
		}
	}
	return okByForm(z)
}

func someMissingByForm(z []impl.Item) bool {
	return slices.ContainsFunc(z, func(item impl.Item) bool { return item.W < 0 })
}

// viewAtByForm puts all together at once, and more lists, if there are such.
func viewAtByForm(v impl.View, at int, more ...[]impl.Item) ([]impl.Item, bool) {
	all := copied(v.Base)
	for _, past := range v.Pasts {
		if past.At <= at {
			all = append(all, copied(past.Out)...)
		}
	}
	for _, z := range more {
		all = append(all, copied(z)...)
	}
	return sumByForm(all)
}

func storeTableByForm(s impl.Store, wide int) (impl.Store, int) {
	switch {
	case !storeOkByForm(s):
		return impl.Store{}, 6
	case wide < 1 || wide > 6:
		return s, 2
	case len(s.Tables) == 3:
		return s, 5
	}
	return changedStore(s, func(s *impl.Store) { s.Wides, s.Tables = append(s.Wides, wide), append(s.Tables, nil) }), 0
}

func storeViewByForm(s impl.Store, p impl.Plan) (impl.Store, int) {
	switch {
	case !storeOkByForm(s):
		return impl.Store{}, 6
	case !writableByForm(p) || wideByForm(p, s.Wides) == -1:
		return s, 2
	case len(s.Views) == 3:
		return s, 5
	}
	flow, told, ok := stepByForm(flowOfByForm(p), s.Tables)
	if !ok {
		return s, 5
	}
	return changedStore(s, func(s *impl.Store) { s.Views = append(s.Views, impl.View{Flow: flow, Since: s.Now, Base: told}) }), 0
}

func storeTurnByForm(s impl.Store, turned [][]impl.Item) (impl.Store, int) {
	if !storeOkByForm(s) {
		return impl.Store{}, 6
	}
	if len(turned) > len(s.Tables) {
		return s, 1
	}
	next := copiedStore(s)
	for n, z := range turned {
		if !areWideByForm(z, s.Wides[n]) {
			return s, 2
		}
		next.Tables[n], _ = sumByForm(slices.Concat(copied(s.Tables[n]), copied(z)))
	}
	if slices.ContainsFunc(next.Tables, someMissingByForm) {
		return s, 3
	}
	if slices.ContainsFunc(next.Tables, func(z []impl.Item) bool { return !okByForm(z) }) || s.Now == 40 {
		return s, 5
	}
	next.Now = s.Now + 1
	for i := range next.Views {
		flow, told, ok := stepByForm(s.Views[i].Flow, turned)
		if _, allOk := viewAtByForm(s.Views[i], 40, told); !ok || !allOk {
			return s, 5
		}
		next.Views[i].Flow = flow
		if len(told) > 0 {
			next.Views[i].Pasts = append(next.Views[i].Pasts, impl.Past{At: next.Now, Out: told})
		}
	}
	return next, 0
}

func storeReadByForm(s impl.Store, view int, at int) ([]impl.Item, int) {
	switch {
	case !storeOkByForm(s):
		return nil, 6
	case view < 0 || view >= len(s.Views) || at > s.Now:
		return nil, 1
	case at < s.Keep || at < s.Views[view].Since:
		return nil, 4
	}
	z, ok := viewAtByForm(s.Views[view], at)
	if !ok {
		return nil, 5
	}
	return z, 0
}

func storeKeepByForm(s impl.Store, at int) (impl.Store, int) {
	switch {
	case !storeOkByForm(s):
		return impl.Store{}, 6
	case at > s.Now:
		return s, 1
	case at < s.Keep:
		return s, 4
	}
	next := copiedStore(s)
	for i, v := range s.Views {
		z, ok := viewAtByForm(v, at)
		if !ok {
			return s, 5
		}
		next.Views[i].Base, next.Views[i].Pasts = z, nil
		for _, past := range v.Pasts {
			if past.At > at {
				next.Views[i].Pasts = append(next.Views[i].Pasts, past)
			}
		}
	}
	next.Keep = at
	return next, 0
}

func storeMergeByForm(s impl.Store, view int, fuel int) (impl.Store, int) {
	switch {
	case !storeOkByForm(s):
		return impl.Store{}, 6
	case view < 0 || view >= len(s.Views) || fuel < 0:
		return s, 1
	}
	next := copiedStore(s)
	next.Views[view].Flow, _ = flowMergeByForm(s.Views[view].Flow, fuel)
	return next, 0
}

// wantStore holds what is told against what is wanted; with a code it must be the store as it was, or nothing.
func wantStore(t *testing.T, what string, was impl.Store, got impl.Store, code int, want impl.Store, wantCode int) {
	t.Helper()
	if code != wantCode || !sameStores(got, want) {
		t.Fatalf("%s of %s: %s, %d; want %s, %d", what, storeText(was), storeText(got), code, storeText(want), wantCode)
	}
	if !impl.StoreSame(got, want) || impl.StoreOk(got) != storeOkByForm(want) {
		t.Fatalf("%s of %s: it is not the same as %s, or ok is %v", what, storeText(was), storeText(want), impl.StoreOk(got))
	}
	if code != 0 && code != 6 && !sameStores(got, was) || code == 6 && !isNoStore(got) {
		t.Fatalf("%s of %s, with the code %d: %s", what, storeText(was), code, storeText(got))
	}
}

func wantTable(t *testing.T, s impl.Store, wide int) (impl.Store, int) {
	t.Helper()
	got, code := impl.StoreTable(s, wide)
	want, wantCode := storeTableByForm(s, wide)
	wantStore(t, fmt.Sprint("a table of ", wide), s, got, code, want, wantCode)
	return got, code
}

func wantView(t *testing.T, s impl.Store, p impl.Plan) (impl.Store, int) {
	t.Helper()
	got, code := impl.StoreView(s, p)
	want, wantCode := storeViewByForm(s, p)
	wantStore(t, "a view of "+planShown(p), s, got, code, want, wantCode)
	return got, code
}

func wantTurn(t *testing.T, s impl.Store, turned [][]impl.Item) (impl.Store, int) {
	t.Helper()
	got, code := impl.StoreTurn(s, turned)
	want, wantCode := storeTurnByForm(s, turned)
	wantStore(t, fmt.Sprintf("turning %q", listsText(turned)), s, got, code, want, wantCode)
	return got, code
}

func wantKeep(t *testing.T, s impl.Store, at int) (impl.Store, int) {
	t.Helper()
	got, code := impl.StoreKeep(s, at)
	want, wantCode := storeKeepByForm(s, at)
	wantStore(t, fmt.Sprint("keeping ", at), s, got, code, want, wantCode)
	return got, code
}

func wantStoreMerged(t *testing.T, s impl.Store, view int, fuel int) (impl.Store, int) {
	t.Helper()
	got, code := impl.StoreMerge(s, view, fuel)
	want, wantCode := storeMergeByForm(s, view, fuel)
	wantStore(t, fmt.Sprint("merging ", view, " with ", fuel), s, got, code, want, wantCode)
	return got, code
}

func wantReadAt(t *testing.T, s impl.Store, view int, at int) ([]impl.Item, int) {
	t.Helper()
	got, code := impl.StoreRead(s, view, at)
	want, wantCode := storeReadByForm(s, view, at)
	if code != wantCode || !sameItems(got, want) || code != 0 && len(got) > 0 {
		t.Fatalf("view %d at %d of %s: %s, %d; want %s, %d", view, at, storeText(s), impl.ZText(got), code, impl.ZText(want), wantCode)
	}
	return got, code
}

// wantCode asks how a call ends.
func wantCode(t *testing.T, what string, code int, want int) {
	t.Helper()
	if code != want {
		t.Fatalf("%s ends with %d; want %d", what, code, want)
	}
}

// keeper is a store, and what its tables were at each time.
type keeper struct {
	store impl.Store
	then  [][][]impl.Item
}

// keep is a keeper of tables so wide.
func keep(t *testing.T, wides ...int) *keeper {
	t.Helper()
	k := &keeper{then: [][][]impl.Item{nil}}
	for _, wide := range wides {
		k.table(t, wide)
	}
	return k
}

func (k *keeper) table(t *testing.T, wide int) {
	t.Helper()
	next, code := wantTable(t, k.store, wide)
	wantCode(t, fmt.Sprint("a table of ", wide), code, 0)
	k.store = next
	k.then[next.Now] = copiedLists(next.Tables)
}

func (k *keeper) view(t *testing.T, text string) {
	t.Helper()
	next, code := wantView(t, k.store, planRead(t, text))
	wantCode(t, text, code, 0)
	k.store = next
}

// turn is wantTurn; what the tables are then is put together here.
func (k *keeper) turn(t *testing.T, lists [][]impl.Item) int {
	t.Helper()
	next, code := wantTurn(t, k.store, lists)
	k.store = next
	if code == 0 {
		tables := copiedLists(k.then[len(k.then)-1])
		for n, z := range lists {
			tables[n], _ = sumByForm(slices.Concat(tables[n], copied(z)))
		}
		k.then = append(k.then, tables)
	}
	return code
}

// turns is turn, by texts, each of which must be fine.
func (k *keeper) turns(t *testing.T, texts ...string) {
	t.Helper()
	for _, text := range texts {
		wantCode(t, text, k.turn(t, listsRead(t, text)), 0)
	}
}

func (k *keeper) forget(t *testing.T, at int) {
	t.Helper()
	next, code := wantKeep(t, k.store, at)
	wantCode(t, fmt.Sprint("keeping ", at), code, 0)
	k.store = next
}

func (k *keeper) merge(t *testing.T, view int, fuel int) {
	t.Helper()
	next, code := wantStoreMerged(t, k.store, view, fuel)
	wantCode(t, fmt.Sprint("merging ", view), code, 0)
	k.store = next
}

// wantMeant reads each view at each time: it must be what its plan means over the tables then, wherever that can be told: how often it can be, and there is something.
func (k *keeper) wantMeant(t *testing.T) int {
	t.Helper()
	if k.store.Now != len(k.then)-1 || !slices.EqualFunc(k.store.Tables, k.then[k.store.Now], sameItems) {
		t.Fatalf("%s; want %q by now", storeText(k.store), listsText(k.then[len(k.then)-1]))
	}
	told := 0
	for view, v := range k.store.Views {
		for at := -1; at <= k.store.Now+1; at++ {
			want := 0
			switch {
			case at > k.store.Now:
				want = impl.StoreNone
			case at < k.store.Keep || at < v.Since:
				want = impl.StoreGone
			}
			got, code := wantReadAt(t, k.store, view, at)
			if code != want {
				t.Fatalf("view %d at %d of %s: %d; want %d", view, at, storeText(k.store), code, want)
			}
			if code != 0 {
				continue
			}
			if meant, ok := impl.MeanOf(v.Flow.Plan, k.then[at]); ok {
				if !sameItems(got, meant) {
					t.Fatalf("view %d at %d of %s: %s; want %s", view, at, storeText(k.store), impl.ZText(got), impl.ZText(meant))
				}
				told += min(1, len(got))
			}
		}
	}
	return told
}

// fullKeeper has views that were made at different times, one of them behind the first time that is kept, and a time at which nothing was turned.
func fullKeeper(t *testing.T) *keeper {
	t.Helper()
	k := keep(t, 2, 2, 1)
	k.view(t, "join 0 0 t0 t1")
	k.turns(t, "1,10*2 2,20*1 / 1,5*1")
	k.view(t, "group 0 sum 1 t0")
	k.turns(t, "/ 1,6*1", "1,10*-1 3,30*1 / / 7*1")
	k.view(t, "once both t2 map c0 t0")
	k.turns(t, "none", "2,20*-1 / 2,8*1 / 7*-1")
	k.forget(t, 2)
	k.turns(t, "/ 3,9*2")
	return k
}

func TestStoreOfNothing(t *testing.T) {
	s := impl.Store{}
	if !impl.StoreOk(s) || !impl.StoreSame(s, s) {
		t.Fatal("a store of nothing")
	}
	if got, code := wantTurn(t, s, nil); code != 0 || got.Now != 1 || len(got.Tables) > 0 {
		t.Error("no lists of no tables", storeText(got), code)
	}
	_, code := wantTurn(t, s, [][]impl.Item{nil})
	wantCode(t, "a list of no table", code, impl.StoreNone)
	_, code = wantView(t, s, tableOf(0))
	wantCode(t, "a view of no table", code, impl.StoreType)
	_, code = wantReadAt(t, s, 0, 0)
	wantCode(t, "no view", code, impl.StoreNone)
	_, code = wantStoreMerged(t, s, 0, 0)
	wantCode(t, "no view", code, impl.StoreNone)
	for at, want := range map[int]int{-1: impl.StoreGone, 0: 0, 1: impl.StoreNone} {
		_, code := wantKeep(t, s, at)
		wantCode(t, fmt.Sprint("keeping ", at), code, want)
	}
}

func TestStoreCodes(t *testing.T) {
	codes := []int{impl.StoreFine, impl.StoreNone, impl.StoreType, impl.StoreLess, impl.StoreGone, impl.StoreBig, impl.StoreForm}
	if !slices.Equal(codes, []int{0, 1, 2, 3, 4, 5, 6}) || impl.StoreViews != 3 || impl.StoreTimes != 40 {
		t.Error(codes, impl.StoreViews, impl.StoreTimes)
	}
}

// TestStoreTables has just PlanNames tables and one more, of each wide.
func TestStoreTables(t *testing.T) {
	for _, wide := range []int{1, 2, 3, 4, 5, 6} {
		s := impl.Store{}
		for count := 1; count <= 3; count++ {
			next, code := wantTable(t, s, wide)
			if code != 0 || len(next.Tables) != count || next.Wides[count-1] != wide || len(next.Tables[count-1]) > 0 || next.Now != 0 || next.Keep != 0 {
				t.Fatal(wide, storeText(next), code)
			}
			s = next
		}
		got, code := wantTable(t, s, wide)
		if code != impl.StoreBig || !impl.StoreSame(got, s) {
			t.Error("a fourth table:", storeText(got), code)
		}
	}
	for count := range 4 {
		s := keep(t, slices.Repeat([]int{2}, count)...).store
		for _, wide := range []int{0, -1, 7, 8, math.MinInt, math.MaxInt} {
			got, code := wantTable(t, s, wide)
			if code != impl.StoreType || !impl.StoreSame(got, s) {
				t.Errorf("a wide of %d beside %d tables: %d", wide, count, code)
			}
		}
	}
}

// TestStoreTableLater has a table that comes behind times and views: these are as they were.
func TestStoreTableLater(t *testing.T) {
	k := keep(t, 2)
	k.view(t, "once t0")
	k.turns(t, "1,1*1", "1,2*1")
	k.table(t, 1)
	k.view(t, "join 0 0 t1 t0")
	k.turns(t, "1,1*-1 / 1*2", "/ 2*1")
	k.table(t, 6)
	k.view(t, "t2")
	k.turns(t, "/ / 1,2,3,4,5,6*1")
	if told := k.wantMeant(t); told < 8 {
		t.Error(told)
	}
	for _, c := range []struct {
		view, at int
		want     string
	}{{0, 2, "1,1*1 1,2*1"}, {1, 2, ""}, {1, 3, "1,1,2*2"}, {2, 4, ""}, {2, 5, "1,2,3,4,5,6*1"}} {
		got, code := impl.StoreRead(k.store, c.view, c.at)
		wantText(t, fmt.Sprint(c), got, code == 0, c.want)
	}
}

// storeKinds is plans of each kind over tables of two cells.
func storeKinds() []string {
	var texts []string
	for text := range flowKinds {
		texts = append(texts, text)
	}
	slices.Sort(texts)
	return texts
}

// storeTimes is what is told at each of flowTimes, put together, for views that are there from the time 0 on.
func storeTimes(t *testing.T, text string) []string {
	var all []impl.Item
	texts := []string{""}
	for _, told := range flowKinds[text] {
		all, _ = sumByForm(slices.Concat(all, read(t, told)))
		texts = append(texts, impl.ZText(all))
	}
	return texts
}

// TestStoreReadsEachKind reads a view of each kind of plan at each time, made at each time, with merging and without.
func TestStoreReadsEachKind(t *testing.T) {
	for _, text := range storeKinds() {
		want := storeTimes(t, text)
		for since := range 5 {
			for _, fuel := range []int{-1, 0, 3, 1000} {
				k := keep(t, 2, 2, 2)
				for at := range 5 {
					if at == since {
						k.view(t, text)
					}
					if fuel >= 0 && at >= since {
						k.merge(t, 0, fuel)
					}
					if at < 4 {
						k.turns(t, flowTimes[at])
					}
				}
				for at := since; at < 5; at++ {
					got, code := impl.StoreRead(k.store, 0, at)
					wantText(t, fmt.Sprint(text, " since ", since, " at ", at), got, code == 0, want[at])
				}
				k.wantMeant(t)
			}
		}
	}
}

// TestStoreReadsWhatIsKept forgets up to each time, at each time: what is still kept is read as it was.
func TestStoreReadsWhatIsKept(t *testing.T) {
	for _, text := range storeKinds() {
		want := storeTimes(t, text)
		for when := range 5 {
			for upTo := 0; upTo <= when; upTo++ {
				k := keep(t, 2, 2, 2)
				k.view(t, text)
				for at := range 5 {
					if at == when {
						k.forget(t, upTo)
					}
					if at < 4 {
						k.turns(t, flowTimes[at])
					}
				}
				for at := range 5 {
					got, code := impl.StoreRead(k.store, 0, at)
					if at < upTo {
						wantCode(t, fmt.Sprint(text, " at ", at), code, impl.StoreGone)
						continue
					}
					wantText(t, fmt.Sprint(text, " at ", at), got, code == 0, want[at])
				}
				k.wantMeant(t)
			}
		}
	}
}

// TestStoreViewsAtDifferentTimes reads at each time, and asks for the Pasts: none at a time at which nothing was turned of a view.
func TestStoreViewsAtDifferentTimes(t *testing.T) {
	k := fullKeeper(t)
	want := [][]string{
		{2: "1,10,1,5*2 1,10,1,6*2", 3: "1,10,1,5*1 1,10,1,6*1", 4: "1,10,1,5*1 1,10,1,6*1", 5: "1,10,1,5*1 1,10,1,6*1", 6: "1,10,1,5*1 1,10,1,6*1 3,30,3,9*2"},
		{2: "1,20*1 2,20*1", 3: "1,10*1 2,20*1 3,30*1", 4: "1,10*1 2,20*1 3,30*1", 5: "1,10*1 3,30*1", 6: "1,10*1 3,30*1"},
		{3: "1*1 2*1 3*1 7*1", 4: "1*1 2*1 3*1 7*1", 5: "1*1 3*1", 6: "1*1 3*1"},
	}
	first := []int{2, 2, 3}
	for view, texts := range want {
		for at := range 9 {
			got, code := wantReadAt(t, k.store, view, at)
			switch {
			case at > 6:
				wantCode(t, fmt.Sprint(view, at), code, impl.StoreNone)
			case at < first[view]:
				wantCode(t, fmt.Sprint(view, at), code, impl.StoreGone)
			default:
				wantText(t, fmt.Sprint("view ", view, " at ", at), got, code == 0, texts[at])
			}
		}
	}
	if told := k.wantMeant(t); told != 14 {
		t.Error(told)
	}
	for view, times := range [][]int{{3, 6}, {3, 5}, {5}} {
		v := k.store.Views[view]
		var got []int
		for _, past := range v.Pasts {
			got = append(got, past.At)
		}
		if !slices.Equal(got, times) || v.Since != []int{0, 1, 3}[view] || k.store.Now != 6 || k.store.Keep != 2 {
			t.Errorf("view %d: %s", view, storeText(k.store))
		}
	}
}

// TestStoreLess takes out more than there is, just what is there, and less than that.
func TestStoreLess(t *testing.T) {
	for _, c := range []struct {
		turned string
		want   int
		tables string
	}{
		{"1,1*-1", 0, "1,1*1 2,2*1 / 5*3"},
		{"1,1*-2", 0, "2,2*1 / 5*3"},
		{"1,1*-3", impl.StoreLess, ""},
		{"1,1*-10000", impl.StoreLess, ""},
		{"1,1*-2 2,2*-1", 0, " / 5*3"},
		{"1,1*-2 2,2*-1 / 5*-3", 0, " / "},
		{"1,1*-2 2,2*-2", impl.StoreLess, ""},
		{"1,1*-2 2,2*-1 / 5*-4", impl.StoreLess, ""},
		{"1,2*-1", impl.StoreLess, ""},
		{"1,2*1 1,3*-1", impl.StoreLess, ""},
		{"/ 5*-3", 0, "1,1*2 2,2*1 / "},
		{"/ 5*-4", impl.StoreLess, ""},
		{"/ 4*-1 5*-3", impl.StoreLess, ""},
		{"3,3*1 / 6*-1", impl.StoreLess, ""},
		{"3,3*1 / 5*-3 6*1", 0, "1,1*2 2,2*1 3,3*1 / 6*1"},
	} {
		for _, views := range [][]string{nil, {"once t0"}, {"t0", "group 0 count 0 t1", "join 0 0 t0 t1"}} {
			k := keep(t, 2, 1)
			k.turns(t, "1,1*2 2,2*1 / 5*3")
			for _, text := range views {
				k.view(t, text)
			}
			was := copiedStore(k.store)
			wantCode(t, fmt.Sprint(c), k.turn(t, listsRead(t, c.turned)), c.want)
			if c.want != 0 && !impl.StoreSame(k.store, was) {
				t.Fatalf("%v: %s", c, storeText(k.store))
			}
			if c.want == 0 && listsText(k.store.Tables) != c.tables {
				t.Errorf("%v: %s", c, storeText(k.store))
			}
			k.wantMeant(t)
			// What is put back is there again.
			k.turns(t, "9,9*1 / 9*1", "9,9*-1 / 9*-1")
			k.wantMeant(t)
		}
	}
	empty := keep(t, 1)
	wantCode(t, "of an empty table", empty.turn(t, listsRead(t, "1*-1")), impl.StoreLess)
}

// TestStoreOfFewLists has fewer lists than tables, just as many, and more.
func TestStoreOfFewLists(t *testing.T) {
	for tables := range 4 {
		k := keep(t, slices.Repeat([]int{1}, tables)...)
		if tables > 0 {
			k.view(t, fmt.Sprint("once t", tables-1))
		}
		for lists := range 7 {
			for _, z := range [][]impl.Item{nil, {}, many(1, 1, 1)} {
				was := copiedStore(k.store)
				want := 0
				if lists > tables {
					want = impl.StoreNone
				}
				code := k.turn(t, slices.Repeat([][]impl.Item{z}, lists))
				wantCode(t, fmt.Sprint(lists, " lists of ", tables, " tables"), code, want)
				if want == 0 && k.store.Now != was.Now+1 || want != 0 && !impl.StoreSame(k.store, was) {
					t.Error(storeText(k.store))
				}
			}
		}
		k.wantMeant(t)
	}
}

// TestStoreOfNothingTurned has times at which nothing is turned, of any table or of what a view is of: they count, but there is no Past.
func TestStoreOfNothingTurned(t *testing.T) {
	for _, text := range []string{"t0", "once t0", "join 0 0 t0 t0", "where c0<#5 t0", "group 0 count 0 t0", "map #1 t0", "both t0 t0"} {
		k := keep(t, 1, 2, 1)
		k.turns(t, "1*2 5*1 / 1,1*1")
		k.view(t, text)
		flow := copiedFlow(k.store.Views[0].Flow)
		for i, turned := range []string{"none", "", "/", "/ /", "/ 1,2*1", "/ 1,1*-1 / 3*1", "none"} {
			k.turns(t, turned)
			if v := k.store.Views[0]; k.store.Now != i+2 || len(v.Pasts) > 0 || !impl.FlowSame(v.Flow, flow) {
				t.Errorf("%s at %d: %s", text, i, storeText(k.store))
			}
		}
		k.turns(t, "2*1", "none")
		if v := k.store.Views[0]; len(v.Pasts) != 1 || v.Pasts[0].At != 9 || k.store.Now != 10 {
			t.Errorf("%s: %s", text, storeText(k.store))
		}
		if told := k.wantMeant(t); told != 10 {
			t.Error(text, told)
		}
	}
	// Of what is turned of a table, nothing may be turned of a view of it.
	for text, turned := range map[string]string{"once t0": "1,1*1", "where c0<#5 t0": "7,1*1", "group 0 least 1 t0": "1,5*1", "map c0 t0": "1,1*-1 1,2*1", "join 0 0 t0 t1": "3,3*1", "group 0 most 1 once t0": "1,1*1", "both t1 where c0<#0 t0": "1,2*3"} {
		k := keep(t, 2, 2)
		k.turns(t, "1,1*2 / 1,1*1")
		k.view(t, text)
		k.turns(t, turned)
		if len(k.store.Views[0].Pasts) > 0 || k.store.Now != 2 {
			t.Errorf("%s: %s", text, storeText(k.store))
		}
		k.wantMeant(t)
	}
}

// TestStoreReadEdges reads at Now, at Keep, at Since, and one time to either side of each.
func TestStoreReadEdges(t *testing.T) {
	for _, c := range []struct{ since, keep, now int }{
		{0, 0, 0}, {0, 0, 3}, {0, 2, 4}, {2, 0, 4}, {2, 2, 4}, {1, 3, 5}, {3, 1, 5}, {4, 4, 4}, {0, 4, 4}, {4, 0, 4}, {3, 2, 3}, {2, 3, 3},
	} {
		k := keep(t, 1)
		for at := range c.now + 1 {
			if at > 0 {
				k.turn(t, [][]impl.Item{many(at, 1, at)})
			}
			if at == c.since {
				k.view(t, "t0")
			}
		}
		k.forget(t, c.keep)
		first := max(c.since, c.keep)
		for _, at := range []int{math.MinInt, -1, 0, c.keep - 1, c.keep, c.keep + 1, c.since - 1, c.since, c.since + 1, c.now - 1, c.now, c.now + 1, 40, 41, math.MaxInt} {
			got, code := wantReadAt(t, k.store, 0, at)
			switch {
			case at > c.now:
				wantCode(t, fmt.Sprint(c, " at ", at), code, impl.StoreNone)
			case at < first:
				wantCode(t, fmt.Sprint(c, " at ", at), code, impl.StoreGone)
			default:
				wantCode(t, fmt.Sprint(c, " at ", at), code, 0)
				if len(got) != at || impl.ZGet(got, []int{at}) != at {
					t.Errorf("%v at %d: %s", c, at, impl.ZText(got))
				}
			}
		}
		for _, view := range []int{-1, 1, 2, 3, math.MinInt, math.MaxInt} {
			for _, at := range []int{-1, 0, first, c.now, c.now + 1} {
				got, code := wantReadAt(t, k.store, view, at)
				wantCode(t, fmt.Sprint("view ", view, " at ", at), code, impl.StoreNone)
				if len(got) > 0 {
					t.Error(impl.ZText(got))
				}
			}
		}
	}
}

// TestStoreKeepEdges keeps from Keep on, from Now on, from ahead of a view's Since on, and one time to either side.
func TestStoreKeepEdges(t *testing.T) {
	s := fullKeeper(t).store
	for at, want := range map[int]int{math.MinInt: 4, -1: 4, 0: 4, 1: 4, 2: 0, 3: 0, 4: 0, 5: 0, 6: 0, 7: 1, 40: 1, 41: 1, math.MaxInt: 1} {
		got, code := wantKeep(t, s, at)
		wantCode(t, fmt.Sprint("keeping ", at), code, want)
		if code != 0 {
			continue
		}
		if got.Keep != at || got.Now != 6 || !slices.EqualFunc(got.Tables, s.Tables, sameItems) {
			t.Errorf("keeping %d: %s", at, storeText(got))
		}
		for view, v := range got.Views {
			if !impl.FlowSame(v.Flow, s.Views[view].Flow) || v.Since != s.Views[view].Since {
				t.Errorf("keeping %d: %s", at, storeText(got))
			}
			for time := at; time <= 6; time++ {
				was, wasCode := impl.StoreRead(s, view, time)
				is, isCode := wantReadAt(t, got, view, time)
				if wasCode != isCode || !sameItems(was, is) {
					t.Errorf("keeping %d: view %d at %d is %s, and was %s", at, view, time, impl.ZText(is), impl.ZText(was))
				}
			}
		}
	}
	same, _ := impl.StoreKeep(s, s.Keep)
	if !impl.StoreSame(same, s) {
		t.Error("keeping what is kept:", storeText(same))
	}
	// The view that came at 3 is not touched by what is forgotten ahead of that.
	k := fullKeeper(t)
	base := copiedView(k.store.Views[2])
	for _, at := range []int{2, 3} {
		k.forget(t, at)
		if !sameViews(k.store.Views[2], base) {
			t.Error(storeText(k.store))
		}
	}
	k.forget(t, 6)
	for _, v := range k.store.Views {
		if len(v.Pasts) > 0 {
			t.Error(storeText(k.store))
		}
	}
	k.turns(t, "3,30*-1", "none", "3,30*1 4,40*1 / 4,4*1")
	k.wantMeant(t)
	k.forget(t, 8)
	k.wantMeant(t)
}

// TestStoreViewEdges has just StoreViews views and one more.
func TestStoreViewEdges(t *testing.T) {
	k := keep(t, 2, 1)
	k.turns(t, "1,1*1 2,2*2 / 1*1")
	for count, text := range []string{"t0", "join 0 0 t0 t1", "t0"} {
		k.view(t, text)
		v := k.store.Views[count]
		if len(k.store.Views) != count+1 || v.Since != 1 || len(v.Pasts) > 0 || k.store.Now != 1 {
			t.Error(storeText(k.store))
		}
		want, _ := meanByForm(planRead(t, text), k.store.Tables)
		wantTold(t, text, v.Base, true, want, true)
		flow, _, _ := stepByForm(flowOfByForm(planRead(t, text)), k.store.Tables)
		wantFlow(t, text, v.Flow, flow)
	}
	for _, text := range []string{"t0", "t1", "once t0"} {
		_, code := wantView(t, k.store, planRead(t, text))
		wantCode(t, "a fourth view", code, impl.StoreBig)
	}
	k.turns(t, "1,1*-1", "/ 1*1 2*1")
	k.wantMeant(t)
	_, code := wantView(t, k.store, planRead(t, "t0"))
	wantCode(t, "a fourth view", code, impl.StoreBig)
}

// TestStoreViewOfNoPlan has plans without a wide, also beside as many views as there can be.
func TestStoreViewOfNoPlan(t *testing.T) {
	few, full := keep(t, 2, 1), keep(t, 2, 1)
	full.turns(t, "1,1*1 / 1*2")
	for range 3 {
		full.view(t, "once t0")
	}
	wrong := noPlans()
	for _, text := range []string{"t2", "map c2 t0", "map c1 t1", "where c0<c2 t0", "join 2 0 t0 t1", "join 0 1 t0 t1", "both t0 t1", "group 2 count 0 t0", "group 0 sum 1 t1", "once t2", "join 0 0 t0 t2", "join 0 0 join 0 0 t0 t0 join 0 0 t0 t1"} {
		wrong[text] = planRead(t, text)
	}
	for name, p := range wrong {
		for _, s := range []impl.Store{{}, few.store, full.store} {
			got, code := impl.StoreView(s, p)
			if code != impl.StoreType || !sameStores(got, s) || !impl.StoreSame(got, s) {
				t.Errorf("a view of %s: %s, %d", name, storeText(got), code)
			}
		}
	}
	for _, text := range []string{"t0", "t1", "map c1 t0", "join 0 0 join 0 0 t0 t0 join 0 0 t1 t1", "join 1 0 t0 t1", "group 1,0 most 1 t0"} {
		got, code := wantView(t, few.store, planRead(t, text))
		if code != 0 || len(got.Views) != 1 || len(got.Views[0].Base) > 0 {
			t.Error(text, code)
		}
	}
}

// TestStoreViewTooMuch has tables over which a plan is too much by then.
func TestStoreViewTooMuch(t *testing.T) {
	for _, c := range []struct {
		text   string
		tables [][]impl.Item
		want   int
	}{
		{"both t0 t1", [][]impl.Item{many(0, 50, 1), many(50, 50, 1)}, 0},
		{"both t0 t1", [][]impl.Item{many(0, 50, 1), many(50, 51, 1)}, 5},
		{"both t0 t1", [][]impl.Item{many(0, 1, 5000), many(0, 1, 5000)}, 0},
		{"both t0 t1", [][]impl.Item{many(0, 1, 5000), many(0, 1, 5001)}, 5},
		{"join 0 0 t0 t1", [][]impl.Item{many(0, 1, 100), many(0, 1, 100)}, 0},
		{"join 0 0 t0 t1", [][]impl.Item{many(0, 1, 100), many(0, 1, 101)}, 5},
		{"map #1 t0", [][]impl.Item{many(0, 100, 100)}, 0},
		{"map #1 t0", [][]impl.Item{many(0, 100, 101)}, 5},
		{"map c0+c0 t0", [][]impl.Item{many(500000000, 1, 1)}, 0},
		{"map c0+c0 t0", [][]impl.Item{many(500000001, 1, 1)}, 5},
		{"group - sum 0 t0", [][]impl.Item{many(100000, 1, 10000)}, 0},
		{"group - sum 0 t0", [][]impl.Item{many(100001, 1, 10000)}, 5},
		{"where c0+c0<#1 t0", [][]impl.Item{many(500000001, 1, 1)}, 5},
		{"once both t0 t1", [][]impl.Item{many(0, 100, 1), many(100, 1, 1)}, 5},
		{"t0", [][]impl.Item{many(0, 100, 10000)}, 0},
	} {
		k := keep(t, 1, 1)
		wantCode(t, "the tables", k.turn(t, c.tables), 0)
		got, code := wantView(t, k.store, planRead(t, c.text))
		wantCode(t, c.text+" over "+listsText(c.tables), code, c.want)
		if code != 0 && !impl.StoreSame(got, k.store) {
			t.Error(c.text, storeText(got))
		}
	}
}

// TestStoreTableTooMuch has tables that come to be too much, with views of them and without: just as much can be there.
func TestStoreTableTooMuch(t *testing.T) {
	for name, c := range map[string]struct {
		ahead, then [][]impl.Item
		want        int
	}{
		"100 rows":           {[][]impl.Item{many(0, 99, 1)}, [][]impl.Item{many(99, 1, 1)}, 0},
		"101 rows":           {[][]impl.Item{many(0, 99, 1)}, [][]impl.Item{many(99, 2, 1)}, 5},
		"101, but one goes":  {[][]impl.Item{many(0, 100, 1)}, [][]impl.Item{append(many(0, 1, -1), many(100, 1, 1)...)}, 0},
		"10000 of a row":     {[][]impl.Item{many(0, 1, 9999)}, [][]impl.Item{many(0, 1, 1)}, 0},
		"10001 of a row":     {[][]impl.Item{many(0, 1, 9999)}, [][]impl.Item{many(0, 1, 2)}, 5},
		"of the last table":  {[][]impl.Item{nil, many(0, 100, 1)}, [][]impl.Item{many(0, 1, 1), many(100, 1, 1)}, 5},
		"of the first table": {[][]impl.Item{many(0, 100, 1), nil}, [][]impl.Item{many(100, 1, 1), many(0, 1, 1)}, 5},
		"less of the other":  {[][]impl.Item{many(0, 100, 1), many(0, 1, 1)}, [][]impl.Item{many(100, 1, 1), many(0, 1, -2)}, 3},
		"less of the first":  {[][]impl.Item{many(0, 1, 1), many(0, 100, 1)}, [][]impl.Item{many(0, 1, -2), many(100, 1, 1)}, 3},
		"less of the same":   {[][]impl.Item{many(0, 100, 1)}, [][]impl.Item{append(many(0, 1, -2), many(100, 2, 1)...)}, 3},
	} {
		for _, views := range [][]string{nil, {"t0"}, {"t0", "once t1", "group 0 count 0 t0"}} {
			k := keep(t, 1, 1)
			for _, text := range views {
				k.view(t, text)
			}
			wantCode(t, name, k.turn(t, c.ahead), 0)
			was := copiedStore(k.store)
			wantCode(t, name, k.turn(t, c.then), c.want)
			if c.want != 0 && !impl.StoreSame(was, k.store) {
				t.Error(name, storeText(k.store))
			}
			k.wantMeant(t)
		}
	}
}

// TestStoreViewComesToBeTooMuch has views that are too much behind a time: all is as it was, also the views ahead of them.
func TestStoreViewComesToBeTooMuch(t *testing.T) {
	for name, c := range map[string]struct {
		text        string
		ahead, then [][]impl.Item
		want        int
	}{
		"a spine of 101":           {"once both t0 t1", [][]impl.Item{many(0, 60, 1), many(60, 40, 1)}, [][]impl.Item{nil, many(100, 1, 1)}, 5},
		"a spine of 100":           {"once both t0 t1", [][]impl.Item{many(0, 60, 1), many(60, 39, 1)}, [][]impl.Item{nil, many(99, 1, 1)}, 0},
		"a sum in no cell":         {"group - sum 0 t0", [][]impl.Item{many(100000, 1, 10000)}, [][]impl.Item{many(1, 1, 1)}, 5},
		"by 101 groups":            {"group 0 count 0 t0", [][]impl.Item{many(0, 51, 1)}, [][]impl.Item{many(0, 51, 1)}, 5},
		"by 100 groups":            {"group 0 count 0 t0", [][]impl.Item{many(0, 50, 1)}, [][]impl.Item{many(0, 50, 1)}, 0},
		"101 rows of both":         {"both t0 t1", [][]impl.Item{many(0, 100, 1), nil}, [][]impl.Item{nil, many(100, 1, 1)}, 5},
		"100 rows of both":         {"both t0 t1", [][]impl.Item{many(0, 99, 1), nil}, [][]impl.Item{nil, many(99, 1, 1)}, 0},
		"101 of both, one goes":    {"both t0 t1", [][]impl.Item{many(0, 100, 1), nil}, [][]impl.Item{many(0, 1, -1), many(100, 1, 1)}, 0},
		"10001 of both":            {"both t0 t1", [][]impl.Item{many(0, 1, 9999), nil}, [][]impl.Item{nil, many(0, 1, 2)}, 5},
		"10000 of both":            {"both t0 t1", [][]impl.Item{many(0, 1, 9999), nil}, [][]impl.Item{nil, many(0, 1, 1)}, 0},
		"joined 10001 times":       {"join 0 0 t0 t1", [][]impl.Item{many(0, 1, 100), many(0, 1, 100)}, [][]impl.Item{many(0, 1, 1), nil}, 5},
		"joined 10000 times":       {"join 0 0 t0 t1", [][]impl.Item{many(0, 1, 99), many(0, 1, 100)}, [][]impl.Item{many(0, 1, 1), nil}, 0},
		"mapped to 10001":          {"map #1 t0", [][]impl.Item{many(0, 1, 10000)}, [][]impl.Item{many(1, 1, 1)}, 5},
		"mapped to 10000":          {"map #1 t0", [][]impl.Item{many(0, 1, 9999)}, [][]impl.Item{many(1, 1, 1)}, 0},
		"less ahead of too much":   {"map #1 t0", [][]impl.Item{many(0, 1, 10000)}, [][]impl.Item{many(1, 1, 1), many(0, 1, -1)}, 3},
		"not ok ahead of less":     {"map #1 t0", [][]impl.Item{many(0, 1, 10000)}, [][]impl.Item{many(0, 1, -10001), many(0, 1, -1)}, 2},
		"no wide ahead of too big": {"map #1 t0", [][]impl.Item{many(0, 1, 10000)}, [][]impl.Item{many(1, 1, 1), rowsOfTwo(0, 1, 1)}, 2},
	} {
		for at := range 3 {
			k := keep(t, 1, 1)
			for i := range 3 {
				text := "once t0"
				if i == at {
					text = c.text
				}
				k.view(t, text)
			}
			wantCode(t, name, k.turn(t, c.ahead), 0)
			was := copiedStore(k.store)
			wantCode(t, name, k.turn(t, c.then), c.want)
			if c.want != 0 && !impl.StoreSame(was, k.store) {
				t.Error(name, storeText(k.store))
			}
			k.wantMeant(t)
		}
	}
}

// TestStoreTimes has a Past at each of StoreTimes times, and asks for one time more.
func TestStoreTimes(t *testing.T) {
	k := keep(t, 1, 1)
	k.view(t, "t0")
	k.view(t, "group - count 0 t0")
	for now := 1; now <= 40; now++ {
		wantCode(t, fmt.Sprint("the time ", now), k.turn(t, [][]impl.Item{many(now, 1, 1)}), 0)
	}
	k.view(t, "once t0")
	if len(k.store.Views[0].Pasts) != 40 || len(k.store.Views[1].Pasts) != 40 || k.store.Now != 40 || k.store.Views[2].Since != 40 || !impl.StoreOk(k.store) {
		t.Fatal(storeText(k.store))
	}
	if told := k.wantMeant(t); told != 81 {
		t.Error(told)
	}
	for _, upTo := range []int{0, 1, 39, 40} {
		k.forget(t, upTo)
		for lists, want := range map[string]int{"none": 5, "": 5, "50*1": 5, "1*-1": 5, "50*-1": 3, "1,1*1": 2, "/ /": 1} {
			was := copiedStore(k.store)
			wantCode(t, fmt.Sprintf("%q at the time 40", lists), k.turn(t, listsRead(t, lists)), want)
			if !impl.StoreSame(k.store, was) {
				t.Error(storeText(k.store))
			}
		}
		k.wantMeant(t)
	}
	k.merge(t, 1, 1000)
	k.table(t, 3)
	k.wantMeant(t)
}

// readStore is a store of an empty table and of a view of it that was never told: its Base, and its Pasts at times from 1 on, are given, with bars between.
func readStore(t *testing.T, text string) impl.Store {
	t.Helper()
	runs := strings.Split(text, "|")
	s := impl.Store{Wides: []int{1}, Tables: [][]impl.Item{nil}, Views: []impl.View{{Flow: flowRead(t, "t0"), Base: read(t, strings.TrimSpace(runs[0]))}}, Now: len(runs) - 1}
	for i, out := range runs[1:] {
		s.Views[0].Pasts = append(s.Views[0].Pasts, impl.Past{At: i + 1, Out: read(t, strings.TrimSpace(out))})
	}
	if !impl.StoreOk(s) {
		t.Fatal(storeText(s))
	}
	return s
}

// TestStoreAtTimesThatAreTooMuch has views that are not ok at some of the times that are kept: only the whole counts, not what is on the way to it.
func TestStoreAtTimesThatAreTooMuch(t *testing.T) {
	for text, codes := range map[string][]int{
		"1*1 | 2*1 | 1*-1":                                {0, 0, 0},
		"1*10000 | 1*1 | 1*-1":                            {0, 5, 0},
		"1*10000 | 1*1 | 2*1 | 1*-1 | 1*1":                {0, 5, 5, 0, 5},
		"1*-10000 | 1*-1 | 1*1":                           {0, 5, 0},
		"1*-10000 | 1*10000 | 1*10000 | 1*10000":          {0, 0, 0, 5},
		"1*10000 | 1*10000 | 1*10000 | 1*-10000 | 1*-1":   {0, 5, 5, 5, 5},
		"1*10000 | 1*10000 | 1*-10000 | 1*-10000 | 1*-10": {0, 5, 0, 0, 0},
		" | 1*9999 | 1*1 | 1*1 | 1*-2":                    {0, 0, 0, 5, 0},
	} {
		s := readStore(t, text)
		var sum []impl.Item
		for at, want := range codes {
			got, code := wantReadAt(t, s, 0, at)
			wantCode(t, fmt.Sprint(text, " at ", at), code, want)
			if at == 0 {
				sum = copied(s.Views[0].Base)
			} else {
				sum, _ = sumByForm(slices.Concat(sum, copied(s.Views[0].Pasts[at-1].Out)))
			}
			if code == 0 && !sameItems(got, sum) {
				t.Errorf("%s at %d: %s; want %s", text, at, impl.ZText(got), impl.ZText(sum))
			}
			kept, code := wantKeep(t, s, at)
			wantCode(t, fmt.Sprint(text, " kept from ", at), code, want)
			if want != 0 && !impl.StoreSame(kept, s) {
				t.Error(storeText(kept))
			}
		}
		_, code := wantTurn(t, s, nil)
		wantCode(t, text+" and nothing told", code, codes[len(codes)-1])
	}
	rows := impl.Store{Wides: []int{1}, Tables: [][]impl.Item{nil}, Now: 3, Views: []impl.View{{Flow: flowRead(t, "t0"), Base: many(0, 100, 1), Pasts: []impl.Past{{At: 1, Out: many(100, 1, 1)}, {At: 3, Out: many(0, 1, -1)}}}}}
	for at, want := range []int{0, 5, 5, 0} {
		_, code := wantReadAt(t, rows, 0, at)
		wantCode(t, fmt.Sprint("101 rows at ", at), code, want)
		_, code = wantKeep(t, rows, at)
		wantCode(t, fmt.Sprint("101 rows kept from ", at), code, want)
	}
	// It is gone ahead of being too much, and not there ahead of being gone.
	early := changedStore(readStore(t, "1*10000 | 1*1 | 1*1"), func(s *impl.Store) { s.Now, s.Keep, s.Views[0].Pasts = 5, 3, []impl.Past{{At: 4, Out: many(1, 1, 1)}} })
	for at, want := range []int{4, 4, 4, 0, 5, 5, 1} {
		_, code := wantReadAt(t, early, 0, at)
		wantCode(t, fmt.Sprint("at ", at), code, want)
		_, code = wantReadAt(t, early, 1, at)
		wantCode(t, fmt.Sprint("no view at ", at), code, 1)
		_, code = wantKeep(t, early, at)
		wantCode(t, fmt.Sprint("kept from ", at), code, want)
	}
}

// TestStoreTurnAtAllTimes turns views that are not ok at all times, with what they tell or without.
func TestStoreTurnAtAllTimes(t *testing.T) {
	for _, c := range []struct {
		text, table, turned string
		want                int
	}{
		{"1*9999", "1*1", "1*1", 0},
		{"1*10000", "1*1", "1*1", 5},
		{"1*9999 | 1*1", "1*1", "1*1", 5},
		{"1*10000 | 1*-1", "1*1", "1*1", 0},
		{"1*10000 | 1*-1", "1*1", "1*2", 5},
		{"1*-10000", "1*1", "1*-1", 5},
		{"1*-9999", "1*1", "1*-1", 0},
		{"1*10000 | 1*1", "1*1", "1*-1", 0},
		{"1*10000 | 1*2", "1*2", "1*-1", 5},
		{"1*10000 | 1*2", "1*2", "1*-2", 0},
		{"1*10000 | 1*1", "1*1", "2*1", 5},
		{"1*10000 | 1*1", "1*1", "none", 5},
		{"1*10000 | 1*1", "1*1", "", 5},
		{"1*10000 | 1*1 | 2*5 | 1*-1", "1*1", "2*1", 0},
	} {
		s := readStore(t, c.text)
		s.Tables[0] = read(t, c.table)
		got, code := wantTurn(t, s, listsRead(t, c.turned))
		wantCode(t, fmt.Sprint(c), code, c.want)
		if code != 0 && !impl.StoreSame(got, s) {
			t.Errorf("%v: %s", c, storeText(got))
		}
	}
	// A second view that is too much leaves the first as it was.
	two := changedStore(readStore(t, "1*1 | 2*1"), func(s *impl.Store) {
		s.Views = append(s.Views, impl.View{Flow: flowRead(t, "t0"), Base: read(t, "5*10000")})
	})
	for turned, want := range map[string]int{"4*1": 0, "5*1": 5, "4*1 5*1": 5} {
		got, code := wantTurn(t, two, listsRead(t, turned))
		wantCode(t, turned, code, want)
		if code != 0 && !impl.StoreSame(got, two) {
			t.Error(turned, storeText(got))
		}
	}
}

// TestStoreWrongLists has lists that are not ok, and such as are not as wide as their table.
func TestStoreWrongLists(t *testing.T) {
	k := fullKeeper(t)
	for name, z := range wrongItems() {
		for at := range 3 {
			lists := listsRead(t, "1,10*1 / 2,2*1 / 3*1")
			lists[at] = z
			wantCode(t, fmt.Sprint(name, " at ", at), k.turn(t, lists), impl.StoreType)
			// It is so also beside what is less, and what is too much; but a list too many comes first.
			lists[(at+1)%3] = [][]impl.Item{read(t, "8,8*-1"), read(t, "8,8*-1"), read(t, "8*-1")}[(at+1)%3]
			wantCode(t, fmt.Sprint(name, " at ", at, " beside less"), k.turn(t, lists), impl.StoreType)
			wantCode(t, fmt.Sprint(name, " at ", at, " and a list too many"), k.turn(t, append(lists, nil)), impl.StoreNone)
		}
	}
	for _, c := range []struct {
		lists string
		want  int
	}{
		{"1*1", 2}, {"1,1,1*1", 2}, {"1,1*1 2*1", 2}, {"1*1 1,1*1", 2}, {"/ 1*1", 2}, {"/ / 1,1*1", 2}, {"1,1*1 / 1,1*1 / 1,1*1", 2}, {"1,10*-9 / 1*1", 2}, {"1*-1", 2}, {"/ / 1*1 1,2*-1", 2},
		{"1,10*-9 / / / 1*1", 1}, {"/ / /", 1}, {"1*1 / / /", 1}, {"/ / / / / / 1*1", 1}, {"1,10*-2", 3}, {"1,10*-1", 0},
	} {
		was := copiedStore(k.store)
		_, code := wantTurn(t, k.store, listsRead(t, c.lists))
		wantCode(t, c.lists, code, c.want)
		if !sameStores(k.store, was) {
			t.Fatal(c.lists, "changes what it is given")
		}
	}
	// As wide as RowWide, and of one cell.
	wide := keep(t, 6, 1)
	wide.view(t, "map c5 t0")
	wide.turns(t, "1,2,3,4,5,6*1 / 1*1")
	for _, lists := range []string{"1,2,3,4,5*1", "/ 1,1*1", "1*1"} {
		wantCode(t, lists, wide.turn(t, listsRead(t, lists)), 2)
	}
	wide.wantMeant(t)
}

// TestStoreMerges merges views, one by one, with fuel that is enough, too little, and none; what is read stays the same.
func TestStoreMerges(t *testing.T) {
	k := fullKeeper(t)
	for view := range 3 {
		for _, fuel := range []int{0, 1, 2, 3, 5, 8, 1000, math.MaxInt} {
			got, code := wantStoreMerged(t, k.store, view, fuel)
			wantCode(t, fmt.Sprint("merging ", view, " with ", fuel), code, 0)
			flow, _ := impl.FlowMerge(k.store.Views[view].Flow, fuel)
			want := changedStore(k.store, func(s *impl.Store) { s.Views[view].Flow = flow })
			if !impl.StoreSame(got, want) || impl.FlowMany(got.Views[view].Flow) > impl.FlowMany(k.store.Views[view].Flow) {
				t.Errorf("merging %d with %d: %s", view, fuel, storeText(got))
			}
			merged := keeper{got, slices.Clone(k.then)}
			merged.wantMeant(t)
			merged.turns(t, "1,10*-1 5,5*1 / 1,5*-1 5,5*2 / 1*1")
			merged.wantMeant(t)
		}
		for _, fuel := range []int{-1, -2, math.MinInt} {
			got, code := wantStoreMerged(t, k.store, view, fuel)
			if code != impl.StoreNone || !impl.StoreSame(got, k.store) {
				t.Errorf("merging %d with %d: %d", view, fuel, code)
			}
		}
	}
	for _, view := range []int{-1, 3, 4, math.MinInt, math.MaxInt} {
		for _, fuel := range []int{-1, 0, 1000} {
			got, code := wantStoreMerged(t, k.store, view, fuel)
			if code != impl.StoreNone || !impl.StoreSame(got, k.store) {
				t.Errorf("merging %d with %d: %d", view, fuel, code)
			}
		}
	}
	if all, _ := impl.StoreMerge(k.store, 0, 1000); impl.FlowMany(all.Views[0].Flow) != 2 || impl.StoreSame(all, k.store) {
		t.Error(storeText(all))
	}
}

// wantNoStore asks all calls for what is told of a store that is not ok, whatever else they are given.
func wantNoStore(t *testing.T, what string, s impl.Store) {
	t.Helper()
	if impl.StoreOk(s) {
		t.Fatalf("%s is ok", what)
	}
	calls := map[string]func() (impl.Store, int){}
	for _, wide := range []int{0, 1, 7} {
		calls[fmt.Sprint("StoreTable ", wide)] = func() (impl.Store, int) { return impl.StoreTable(s, wide) }
	}
	for _, p := range []impl.Plan{tableOf(0), {}, tableOf(2)} {
		calls["StoreView "+impl.PlanText(p)] = func() (impl.Store, int) { return impl.StoreView(s, p) }
	}
	for i, lists := range [][][]impl.Item{nil, {nil}, {many(1, 1, 1)}, {many(1, 1, 0)}, {many(1, 1, -1)}, {nil, nil, nil, nil}} {
		calls[fmt.Sprint("StoreTurn ", i)] = func() (impl.Store, int) { return impl.StoreTurn(s, lists) }
	}
	for _, n := range []int{math.MinInt, -1, 0, 1, 2, 6, 7, math.MaxInt} {
		calls[fmt.Sprint("StoreKeep ", n)] = func() (impl.Store, int) { return impl.StoreKeep(s, n) }
		calls[fmt.Sprint("StoreMerge ", n)] = func() (impl.Store, int) { return impl.StoreMerge(s, n, 1-n%2) }
		calls[fmt.Sprint("StoreRead ", n)] = func() (impl.Store, int) {
			z, code := impl.StoreRead(s, max(n, -1)%3, n)
			return impl.Store{Tables: [][]impl.Item{z}[:min(1, len(z))]}, code
		}
	}
	for name, call := range calls {
		if got, code := call(); code != impl.StoreForm || !isNoStore(got) {
			t.Fatalf("%s of %s: %d", name, what, code)
		}
	}
}

// wrongStores is changes of fullKeeper's store behind which it is not ok, each in one part.
func wrongStores(t *testing.T) map[string]func(s *impl.Store) {
	t.Helper()
	wrong := map[string]func(s *impl.Store){
		"a table without a wide":    func(s *impl.Store) { s.Wides = s.Wides[:2] },
		"no wides":                  func(s *impl.Store) { s.Wides = nil },
		"a wide without a table":    func(s *impl.Store) { s.Tables = s.Tables[:2] },
		"no tables":                 func(s *impl.Store) { s.Tables = nil },
		"one more wide":             func(s *impl.Store) { s.Wides = append(s.Wides, 1) },
		"one more table":            func(s *impl.Store) { s.Tables = append(s.Tables, nil) },
		"four tables":               func(s *impl.Store) { s.Wides, s.Tables = append(s.Wides, 1), append(s.Tables, nil) },
		"four tables, and no views": func(s *impl.Store) { s.Wides, s.Tables, s.Views = append(s.Wides, 1), append(s.Tables, nil), nil },
		"very many tables, no views": func(s *impl.Store) {
			*s = impl.Store{Wides: slices.Repeat([]int{1}, 1000), Tables: make([][]impl.Item, 1000)}
		},
		"a weight below 0":          func(s *impl.Store) { s.Tables[0] = read(t, "1,10*1 3,30*-1") },
		"of the last table":         func(s *impl.Store) { s.Tables[2] = read(t, "7*-1") },
		"rows too wide":             func(s *impl.Store) { s.Tables[0] = read(t, "1,10*1 3,30,3*1") },
		"rows not wide enough":      func(s *impl.Store) { s.Tables[1] = read(t, "1*1 1,6*1") },
		"four views":                func(s *impl.Store) { s.Views = append(s.Views, copiedView(s.Views[0])) },
		"many views":                func(s *impl.Store) { s.Views = slices.Repeat(s.Views, 1000) },
		"Now is 41":                 func(s *impl.Store) { s.Now = 41 },
		"Now is great":              func(s *impl.Store) { s.Now = math.MaxInt },
		"Now below Keep":            func(s *impl.Store) { s.Now, s.Keep, s.Views = 1, 2, nil },
		"Now and Keep below 0":      func(s *impl.Store) { s.Now, s.Keep, s.Views = -1, -1, nil },
		"Keep below 0":              func(s *impl.Store) { s.Keep = -1 },
		"Keep is the least":         func(s *impl.Store) { s.Keep = math.MinInt },
		"Keep above Now":            func(s *impl.Store) { s.Keep, s.Views = 7, nil },
		"a table that a plan is of": func(s *impl.Store) { s.Wides, s.Tables = s.Wides[:2], s.Tables[:2] },
		"a plan too wide":           func(s *impl.Store) { s.Wides[0], s.Tables[0] = 5, nil },
		"a plan of too few cells":   func(s *impl.Store) { s.Wides[0], s.Tables[0], s.Views = 1, nil, s.Views[1:2] },
		"a Past at Keep":            func(s *impl.Store) { s.Views[0].Pasts[0].At = 2 },
		"a Past ahead of Keep":      func(s *impl.Store) { s.Views[0].Pasts[0].At = 1 },
		"a Past at 0":               func(s *impl.Store) { s.Views[0].Pasts[0].At, s.Keep = 0, 0 },
		"a Past below 0":            func(s *impl.Store) { s.Views[0].Pasts[0].At = -1 },
		"a Past at Since":           func(s *impl.Store) { s.Views[2].Pasts[0].At = 3 },
		"a Past at Since, alone":    func(s *impl.Store) { s.Views[1].Since = 3 },
		"a Past above Now":          func(s *impl.Store) { s.Views[0].Pasts[1].At = 7 },
		"a Past far above Now":      func(s *impl.Store) { s.Views[0].Pasts[1].At = math.MaxInt },
		"Now ahead of a Past":       func(s *impl.Store) { s.Now = 5 },
		"two Pasts at a time":       func(s *impl.Store) { s.Views[0].Pasts[1].At = 3 },
		"Pasts that go back":        func(s *impl.Store) { slices.Reverse(s.Views[0].Pasts) },
		"a third Past at a time":    func(s *impl.Store) { s.Views[0].Pasts = append(s.Views[0].Pasts, impl.Past{At: 6}) },
		"a Past of nothing":         func(s *impl.Store) { s.Views[1].Pasts = append(s.Views[1].Pasts, impl.Past{}) },
		"very many Pasts":           func(s *impl.Store) { s.Views[1].Pasts = make([]impl.Past, 100000) },
		"a view of a wider plan":    func(s *impl.Store) { s.Views[0].Flow = flowRead(t, "t0") },
		"an empty view, no table": func(s *impl.Store) {
			*s = impl.Store{Wides: []int{1}, Tables: make([][]impl.Item, 1), Views: []impl.View{{Flow: flowRead(t, "t1")}}}
		},
		"an empty view, no such cell": func(s *impl.Store) { s.Views[1] = impl.View{Flow: flowRead(t, "map c2 t0")} },
		"an empty view, too wide": func(s *impl.Store) {
			s.Views[2] = impl.View{Flow: flowRead(t, "join 0 0 t0 join 0 0 t0 join 0 0 t0 t2")}
		},
		"a view without a flow":       func(s *impl.Store) { s.Views[2].Flow = impl.Flow{} },
		"a view of nothing":           func(s *impl.Store) { s.Views[1] = impl.View{} },
		"a flow that lacks a kid":     func(s *impl.Store) { s.Views[0].Flow.Kids = s.Views[0].Flow.Kids[:1] },
		"a flow of another plan":      func(s *impl.Store) { s.Views[1].Flow.Kids[0] = flowRead(t, "t1") },
		"runs where none are kept":    func(s *impl.Store) { s.Views[1].Flow.Right = runsRead(t, "1,1*1") },
		"runs that are too much":      func(s *impl.Store) { s.Views[0].Flow.Right = runsRead(t, "1,1*10000 | 1,1*1") },
		"a flow of a table not there": func(s *impl.Store) { s.Wides, s.Tables, s.Views = s.Wides[:1], s.Tables[:1], s.Views[:1] },
	}
	for view := range 3 {
		short := []string{"1*1", "1*1", "1,1*1"}[view]
		for name, change := range map[string]func(v *impl.View){
			"Since is -1":    func(v *impl.View) { v.Since = -1 },
			"Since is least": func(v *impl.View) { v.Since = math.MinInt },
			"Since is 7":     func(v *impl.View) { v.Since, v.Pasts = 7, nil },
			"Since is great": func(v *impl.View) { v.Since, v.Pasts = math.MaxInt, nil },
			"a wide Base":    func(v *impl.View) { v.Base = read(t, short) },
			"a wide last":    func(v *impl.View) { v.Base = append(v.Base, impl.Item{Row: []int{9, 9, 9, 9, 9}, W: 1}) },
			"a wide Out":     func(v *impl.View) { v.Pasts[len(v.Pasts)-1].Out = read(t, short) },
		} {
			wrong[fmt.Sprint(name, " of view ", view)] = func(s *impl.Store) { change(&s.Views[view]) }
		}
	}
	for name, z := range wrongItems() {
		for n := range 3 {
			wrong[fmt.Sprint(name, " in table ", n)] = func(s *impl.Store) { s.Tables[n] = z }
			wrong[fmt.Sprint(name, " in Base ", n)] = func(s *impl.Store) { s.Views[n].Base = z }
			wrong[fmt.Sprint(name, " in Out ", n)] = func(s *impl.Store) { s.Views[n].Pasts[0].Out = z }
		}
	}
	for _, wide := range []int{0, -1, 7, math.MinInt, math.MaxInt} {
		for n := range 3 {
			wrong[fmt.Sprint("table ", n, " of ", wide)] = func(s *impl.Store) { s.Wides[n], s.Tables[n], s.Views = wide, nil, nil }
		}
	}
	return wrong
}

// TestStoreThatIsWrong has stores that are not ok, each in one part: nothing is told of them but that.
func TestStoreThatIsWrong(t *testing.T) {
	full := fullKeeper(t).store
	if !impl.StoreOk(full) || !storeOkByForm(full) {
		t.Fatal(storeText(full))
	}
	for name, change := range wrongStores(t) {
		s := changedStore(full, change)
		if storeOkByForm(s) {
			t.Fatal(name, "is ok")
		}
		wantNoStore(t, name, s)
		if impl.StoreSame(s, full) || impl.StoreSame(full, s) || !impl.StoreSame(s, copiedStore(s)) {
			t.Error(name, "is the same")
		}
	}
	for name, s := range wrongRuns(t) {
		wantNoStore(t, name, changedStore(full, func(full *impl.Store) { full.Views[0].Flow.Left = s }))
	}
}

// TestStoreThatIsJustOk has stores that are changed in one part, and ok still.
func TestStoreThatIsJustOk(t *testing.T) {
	full := fullKeeper(t).store
	for name, change := range map[string]func(s *impl.Store){
		"as it is":                  func(s *impl.Store) {},
		"Now is 40":                 func(s *impl.Store) { s.Now = 40 },
		"Keep is 0":                 func(s *impl.Store) { s.Keep = 0 },
		"Keep is Now":               func(s *impl.Store) { s.Keep, s.Views = 6, nil },
		"Keep and Now are 40":       func(s *impl.Store) { s.Keep, s.Now, s.Views = 40, 40, nil },
		"Keep and Now are 0":        func(s *impl.Store) { s.Keep, s.Now, s.Views = 0, 0, nil },
		"Since is Now":              func(s *impl.Store) { s.Views[0].Since, s.Views[0].Pasts = 6, nil },
		"Since is 0":                func(s *impl.Store) { s.Views[2].Since = 0 },
		"a Past just behind Keep":   func(s *impl.Store) { s.Keep = 2; s.Views[0].Pasts[0].At = 3 },
		"a Past just behind Since":  func(s *impl.Store) { s.Views[2].Since, s.Views[2].Pasts[0].At = 4, 5 },
		"a Past at Now":             func(s *impl.Store) { s.Views[1].Pasts[1].At = 6 },
		"an Out of nothing":         func(s *impl.Store) { s.Views[1].Pasts[1].Out = nil },
		"a Base of nothing":         func(s *impl.Store) { s.Views[1].Base = nil },
		"a Base that is missing":    func(s *impl.Store) { s.Views[1].Base = read(t, "1,1*-5") },
		"views that are the same":   func(s *impl.Store) { s.Views[1], s.Views[2] = copiedView(s.Views[0]), copiedView(s.Views[0]) },
		"tables of nothing":         func(s *impl.Store) { s.Tables = make([][]impl.Item, 3) },
		"full tables":               func(s *impl.Store) { s.Tables[2] = many(0, 100, 10000) },
		"empty lists":               func(s *impl.Store) { s.Views[0].Pasts, s.Views[1].Base = []impl.Past{}, []impl.Item{} },
		"other rows than the plan":  func(s *impl.Store) { s.Views[0].Base = read(t, "9,9,9,9*1") },
		"runs of other rows":        func(s *impl.Store) { s.Views[0].Flow.Left = runsRead(t, "9*1") },
		"no views":                  func(s *impl.Store) { s.Views = nil },
		"one table, and no view":    func(s *impl.Store) { s.Wides, s.Tables, s.Views = s.Wides[:1], s.Tables[:1], nil },
		"nothing":                   func(s *impl.Store) { *s = impl.Store{} },
		"a time at which it is big": func(s *impl.Store) { s.Views[1].Base = read(t, "1,10*10000 2,20*10000 3,30*10000") },
	} {
		s := changedStore(full, change)
		if !storeOkByForm(s) || !impl.StoreOk(s) {
			t.Errorf("%s: %s is not ok", name, storeText(s))
		}
		for view := -1; view < 4; view++ {
			for at := -1; at < 9; at++ {
				wantReadAt(t, s, view, at)
			}
			wantStoreMerged(t, s, view, 3)
		}
		for at := -1; at < 9; at++ {
			wantKeep(t, s, at)
		}
		for _, lists := range []string{"none", "", "5,5*1", "1,10*-1 / 1,5*-1", "1,10*-9", "/ / 7*1 8*1"} {
			wantTurn(t, s, listsRead(t, lists))
		}
		wantTable(t, s, 3)
		wantView(t, s, tableOf(0))
	}
	// Pasts at each of StoreTimes times.
	s := impl.Store{Wides: []int{1}, Tables: [][]impl.Item{nil}, Now: 40, Views: []impl.View{{Flow: flowRead(t, "t0")}}}
	for at := 1; at <= 40; at++ {
		s.Views[0].Pasts = append(s.Views[0].Pasts, impl.Past{At: at, Out: many(1, 1, 1)})
	}
	if !impl.StoreOk(s) {
		t.Error("40 Pasts")
	}
	for _, past := range []impl.Past{{At: 40}, {At: 41}, {At: 1}} {
		wantNoStore(t, "41 Pasts", changedStore(s, func(s *impl.Store) { s.Views[0].Pasts = append(s.Views[0].Pasts, past) }))
	}
}

// TestStoreSameInAllParts changes each part of a store.
func TestStoreSameInAllParts(t *testing.T) {
	full := fullKeeper(t).store
	for name, change := range map[string]func(s *impl.Store){
		"a wide": func(s *impl.Store) { s.Wides[1]++ }, "one more wide": func(s *impl.Store) { s.Wides = append(s.Wides, 1) }, "a wide less": func(s *impl.Store) { s.Wides = s.Wides[:2] },
		"a weight": func(s *impl.Store) { s.Tables[0][0].W++ }, "a cell": func(s *impl.Store) { s.Tables[1][0].Row[1]++ }, "one more table": func(s *impl.Store) { s.Tables = append(s.Tables, nil) }, "a table less": func(s *impl.Store) { s.Tables = s.Tables[:2] },
		"tables in other order": func(s *impl.Store) { s.Tables[0], s.Tables[1] = s.Tables[1], s.Tables[0] }, "views in other order": func(s *impl.Store) { s.Views[0], s.Views[1] = s.Views[1], s.Views[0] },
		"one more view": func(s *impl.Store) { s.Views = append(s.Views, impl.View{}) }, "a view less": func(s *impl.Store) { s.Views = s.Views[:2] },
		"a flow": func(s *impl.Store) { s.Views[2].Flow.Kids[0].Left = runsRead(t, "1*1") }, "a plan": func(s *impl.Store) { s.Views[1].Flow.Plan.Agg++ }, "Since": func(s *impl.Store) { s.Views[1].Since++ },
		"Base": func(s *impl.Store) { s.Views[0].Base[0].W++ }, "no Base": func(s *impl.Store) { s.Views[1].Base = nil }, "At": func(s *impl.Store) { s.Views[0].Pasts[1].At-- }, "Out": func(s *impl.Store) { s.Views[1].Pasts[1].Out[0].W++ },
		"one more Past": func(s *impl.Store) { s.Views[2].Pasts = append(s.Views[2].Pasts, impl.Past{}) }, "a Past less": func(s *impl.Store) { s.Views[2].Pasts = nil }, "Now": func(s *impl.Store) { s.Now++ }, "Keep": func(s *impl.Store) { s.Keep-- },
		"Now and Keep": func(s *impl.Store) { s.Now, s.Keep = s.Keep, s.Now }, "nothing": func(s *impl.Store) { *s = impl.Store{} },
	} {
		s := changedStore(full, change)
		if impl.StoreSame(full, s) || impl.StoreSame(s, full) || !impl.StoreSame(s, copiedStore(s)) {
			t.Error(name)
		}
	}
	if !impl.StoreSame(full, copiedStore(full)) {
		t.Error("a copy")
	}
	empty := impl.Store{Wides: []int{}, Tables: [][]impl.Item{}, Views: []impl.View{}}
	if !impl.StoreSame(impl.Store{}, empty) || !impl.StoreSame(empty, impl.Store{}) {
		t.Error("the nil list is not the empty list")
	}
	nils, lists := impl.Store{Tables: make([][]impl.Item, 1), Views: make([]impl.View, 1)}, impl.Store{Tables: [][]impl.Item{{}}, Views: []impl.View{{Base: []impl.Item{}, Pasts: []impl.Past{}}}}
	if !impl.StoreSame(nils, lists) || !impl.StoreSame(lists, nils) {
		t.Error("the nil list is not the empty list, further down")
	}
	// What is the same together is not the same in all parts.
	kept, _ := impl.StoreKeep(full, 4)
	merged, _ := impl.StoreMerge(full, 0, 1000)
	if impl.StoreSame(kept, full) || impl.StoreSame(merged, full) || impl.StoreSame(merged, kept) {
		t.Error("kept or merged")
	}
}

// TestStoreThatEndsNowhere asks for an answer also of views whose flows or plans go round, and of plans that do.
func TestStoreThatEndsNowhere(t *testing.T) {
	full := fullKeeper(t).store
	once := onceOf(tableOf(0))
	for name, f := range map[string]impl.Flow{
		"round": roundFlow(once, 0), "round in 3": roundFlow(once, 3), "of a plan that goes round": {Plan: round(once, 0)}, "both": roundFlow(round(once, 0), 1),
		"very many flows": {Plan: once, Kids: slices.Repeat([]impl.Flow{impl.FlowOf(tableOf(0))}, 100000)},
	} {
		for view := range 3 {
			s := copiedStore(full)
			s.Views[view].Flow = f
			wantNoStore(t, name, s)
			if !impl.StoreSame(s, s) || impl.StoreSame(s, full) || impl.StoreSame(full, s) {
				t.Error(name)
			}
		}
	}
	for _, p := range []impl.Plan{round(once, 0), round(once, 2), nested(100000, tableOf(0))} {
		if got, code := impl.StoreView(changedStore(full, func(s *impl.Store) { s.Views = nil }), p); code != impl.StoreType || len(got.Views) > 0 {
			t.Error(code)
		}
	}
}

// someBatch is what is turned of tables: rows that are there and go, others that come; now and then more than is there, or more than there can be.
func someBatch(r *rand.Rand, s impl.Store) [][]impl.Item {
	lists := make([][]impl.Item, r.Intn(len(s.Tables)+1))
	for n := range lists {
		var z []impl.Item
		for _, item := range s.Tables[n] {
			if r.Intn(3) == 0 {
				z = append(z, impl.Item{Row: slices.Clone(item.Row), W: -1 - r.Intn(item.W)})
			}
		}
		for range r.Intn(4) {
			row := make([]int, s.Wides[n])
			for i := range row {
				row[i] = r.Intn(3) - 1
			}
			z = append(z, impl.Item{Row: row, W: 1 + r.Intn(3)})
		}
		if len(z) > 0 && r.Intn(12) == 0 {
			z[len(z)-1].W = []int{-4, -1, 9998, 10000}[r.Intn(4)]
		}
		lists[n], _ = sumByForm(z)
		if !okByForm(lists[n]) {
			lists[n] = nil
		}
	}
	return lists
}

// TestStoreReadsWhatWasMeant turns tables one time behind the other, with views that are made at different times: three stores follow the same, one as it comes, one that is merged, and one that is merged and forgets.
func TestStoreReadsWhatWasMeant(t *testing.T) {
	r := rand.New(rand.NewSource(91))
	told, kinds, codes := 0, map[int]int{}, map[int]int{}
	for range 120 {
		wides := []int{1 + r.Intn(3), 1 + r.Intn(3), 1 + r.Intn(3)}
		plain, merged, short := keep(t, wides...), keep(t, wides...), keep(t, wides...)
		for step := range 12 {
			for range 3 {
				p := somePlan(r, 1+r.Intn(3))
				if len(plain.store.Views) == 3 || r.Intn(2) == 0 {
					continue
				}
				for i, k := range []*keeper{plain, merged, short} {
					next, code := wantView(t, k.store, p)
					k.store = next
					codes[code] += min(1, i)
					if code == 0 {
						kinds[p.Kind]++
					}
				}
			}
			lists := someBatch(r, plain.store)
			code := plain.turn(t, lists)
			codes[code]++
			wantCode(t, "the merged one", merged.turn(t, copiedLists(lists)), code)
			wantCode(t, "the one that forgets", short.turn(t, copiedLists(lists)), code)
			for view := range merged.store.Views {
				merged.merge(t, view, r.Intn(20))
				short.merge(t, r.Intn(view+1), 1000)
			}
			if r.Intn(3) == 0 {
				short.forget(t, short.store.Keep+r.Intn(short.store.Now-short.store.Keep+1))
			}
			if step%4 == 3 {
				told += plain.wantMeant(t) + merged.wantMeant(t) + short.wantMeant(t)
				wantSameReads(t, plain.store, merged.store)
				wantSameReads(t, plain.store, short.store)
			}
		}
	}
	if told < 6000 || len(kinds) != 7 || codes[0] < 1000 || codes[2] < 100 || codes[3] < 30 || codes[5] < 30 {
		t.Error("too little was told:", told, kinds, codes)
	}
}

// wantSameReads asks that two stores are read as one, at all times that the second one keeps.
func wantSameReads(t *testing.T, a impl.Store, b impl.Store) {
	t.Helper()
	for view := range a.Views {
		for at := b.Keep; at <= b.Now; at++ {
			x, xCode := impl.StoreRead(a, view, at)
			y, yCode := impl.StoreRead(b, view, at)
			if xCode != yCode || !sameItems(x, y) {
				t.Fatalf("view %d at %d: %s, %d of %s; %s, %d of %s", view, at, impl.ZText(x), xCode, storeText(a), impl.ZText(y), yCode, storeText(b))
			}
		}
	}
}

// storeMoves is what can be done with a store of two tables of one cell.
func storeMoves(t *testing.T) map[string]func(k *keeper) {
	moves := map[string]func(k *keeper){}
	for _, text := range []string{"none", "1*1", "1*-1 2*1", "2*-1 / 2*1", "/ 1*1 2*-1"} {
		moves["turn "+text] = func(k *keeper) { k.turn(t, listsRead(t, text)) }
	}
	for _, text := range []string{"once t0", "join 0 0 t0 t1"} {
		moves["view "+text] = func(k *keeper) { k.store, _ = wantView(t, k.store, planRead(t, text)) }
	}
	moves["keep"] = func(k *keeper) { k.store, _ = wantKeep(t, k.store, k.store.Now-1) }
	moves["keep now"] = func(k *keeper) { k.store, _ = wantKeep(t, k.store, k.store.Now) }
	moves["merge"] = func(k *keeper) { k.store, _ = wantStoreMerged(t, k.store, 0, 3) }
	return moves
}

// TestStoreInAnyOrder does all that can be done, in each order of a few steps: what is read is what was meant, whatever comes behind what.
func TestStoreInAnyOrder(t *testing.T) {
	moves := storeMoves(t)
	var all func(k keeper, steps int) int
	all = func(k keeper, steps int) int {
		told := k.wantMeant(t)
		for _, move := range moves {
			if steps > 0 {
				next := keeper{k.store, slices.Clone(k.then)}
				move(&next)
				told += all(next, steps-1)
			}
		}
		return told
	}
	start := keep(t, 1, 1)
	start.turns(t, "1*2 / 1*1")
	start.view(t, "once t0")
	if told := all(*start, 4); told < 20000 {
		t.Error(told)
	}
}

// TestStoreInPieces turns the same in other pieces: at the end a view is the same, and the same as one that is made then.
func TestStoreInPieces(t *testing.T) {
	r := rand.New(rand.NewSource(92))
	for _, text := range storeKinds() {
		for range 5 {
			pieces, once := keep(t, 2, 2, 2), keep(t, 2, 2, 2)
			pieces.view(t, text)
			once.view(t, text)
			for range 8 {
				pieces.turn(t, someBatch(r, pieces.store))
			}
			wantCode(t, text, once.turn(t, pieces.store.Tables), 0)
			pieces.view(t, text)
			a, _ := wantReadAt(t, pieces.store, 0, pieces.store.Now)
			b, _ := wantReadAt(t, once.store, 0, 1)
			c, _ := wantReadAt(t, pieces.store, 1, pieces.store.Now)
			if !sameItems(a, b) || !sameItems(a, c) {
				t.Errorf("%s: %s, %s, %s", text, impl.ZText(a), impl.ZText(b), impl.ZText(c))
			}
			pieces.wantMeant(t)
		}
	}
}

// roomyStore is a store with room behind all its lists, filled with what no call may touch.
func roomyStore(s impl.Store) impl.Store {
	var views []impl.View
	for _, v := range s.Views {
		views = append(views, roomyView(v))
	}
	spare := impl.View{Flow: impl.Flow{Plan: tableOf(79)}, Since: 91, Base: many(92, 1, 1)}
	return impl.Store{Wides: append(slices.Clone(s.Wides), 93, 94)[:len(s.Wides)], Tables: roomyLists(s.Tables), Views: append(views, spare, spare)[:len(views)], Now: s.Now, Keep: s.Keep}
}

func roomyView(v impl.View) impl.View {
	var pasts []impl.Past
	for _, past := range v.Pasts {
		pasts = append(pasts, impl.Past{At: past.At, Out: roomy(past.Out)})
	}
	return impl.View{Flow: roomyFlow(v.Flow), Since: v.Since, Base: roomy(v.Base), Pasts: append(pasts, impl.Past{At: 95}, impl.Past{At: 96, Out: many(97, 1, 1)})[:len(pasts)]}
}

// storeAnswer is all that a call of a store can tell.
type storeAnswer struct {
	Store impl.Store
	Told  []impl.Item
}

// storeGiven is all that a call of a store can be given.
type storeGiven struct {
	Store  impl.Store
	Other  impl.Store
	Plan   impl.Plan
	Turned [][]impl.Item
}

// storeCalls is each call of a store, by name.
func storeCalls() map[string]func(in storeGiven) storeAnswer {
	calls := map[string]func(in storeGiven) storeAnswer{
		"StoreView": func(in storeGiven) storeAnswer {
			s, _ := impl.StoreView(in.Store, in.Plan)
			return storeAnswer{Store: s}
		},
		"StoreTurn": func(in storeGiven) storeAnswer {
			s, _ := impl.StoreTurn(in.Store, in.Turned)
			return storeAnswer{Store: s}
		},
		"the rest": func(in storeGiven) storeAnswer {
			impl.StoreOk(in.Store)
			impl.StoreSame(in.Store, in.Other)
			return storeAnswer{}
		},
	}
	for _, n := range []int{-1, 0, 1, 2, 3, 4, 5, 6, 7} {
		calls[fmt.Sprint("StoreTable ", n)] = func(in storeGiven) storeAnswer {
			s, _ := impl.StoreTable(in.Store, n)
			return storeAnswer{Store: s}
		}
		calls[fmt.Sprint("StoreKeep ", n)] = func(in storeGiven) storeAnswer {
			s, _ := impl.StoreKeep(in.Store, n)
			return storeAnswer{Store: s}
		}
		for view := -1; view < 3; view++ {
			calls[fmt.Sprint("StoreRead ", view, " ", n)] = func(in storeGiven) storeAnswer {
				z, _ := impl.StoreRead(in.Store, view, n)
				return storeAnswer{Told: z}
			}
			calls[fmt.Sprint("StoreMerge ", view, " ", n)] = func(in storeGiven) storeAnswer {
				s, _ := impl.StoreMerge(in.Store, view, n*n*n)
				return storeAnswer{Store: s}
			}
		}
	}
	return calls
}

func TestStoresAreNewMemory(t *testing.T) {
	full := fullKeeper(t).store
	few := changedStore(full, func(s *impl.Store) { s.Views = s.Views[:2] })
	small := keep(t, 2)
	small.view(t, "t0")
	small.turns(t, "1,1*1")
	for name, s := range map[string]impl.Store{"a full one": full, "two views": few, "nothing": {}, "a view of a table": small.store} {
		for turned, text := range map[string]string{
			"none": "t0", "": "group 0,1 count 0 join 0 0 t0 t1", "4,40*1": "t2", "1,10*-1 / 1,5*-1 1,7*1 / 5*1": "both t0 t2", "/ / /": "once t0", "1*1": "map c1,c1 t0", "1,10*-5": "where c0<#2 t0", "1,1000000000*1 / 1,1*10000": "join 0 0 t1 t1",
		} {
			in := storeGiven{roomyStore(s), roomyStore(s), roomyPlan(planRead(t, text)), roomyLists(listsRead(t, turned))}
			wantCallsNewMemory(t, fmt.Sprintf("%s with %q and %s", name, turned, text), in, storeCalls())
		}
	}
	for name, change := range wrongStores(t) {
		if strings.Contains(name, "many") {
			continue
		}
		in := storeGiven{roomyStore(changedStore(full, change)), roomyStore(full), roomyPlan(tableOf(0)), roomyLists([][]impl.Item{many(1, 1, 1)})}
		wantCallsNewMemory(t, name, in, storeCalls())
	}
}

// TestStoreOfSharedMemory gives a store whose parts are one list in memory each: those of an answer are apart all the same.
func TestStoreOfSharedMemory(t *testing.T) {
	z := roomy(read(t, "1*1 2*1"))
	lists := [][]impl.Item{z, z, z}
	pasts := []impl.Past{{At: 2, Out: z}, {At: 3, Out: z}}
	once := impl.Flow{Plan: onceOf(tableOf(0)), Left: impl.Spine{Runs: lists}, Kids: []impl.Flow{{Plan: tableOf(0)}}}
	v := impl.View{Flow: once, Since: 1, Base: z, Pasts: pasts}
	s := impl.Store{Wides: []int{1, 1, 1}, Tables: lists, Views: []impl.View{v, v, v}, Now: 4, Keep: 1}
	for _, views := range []int{3, 2} {
		s.Views = s.Views[:views]
		if !impl.StoreOk(s) {
			t.Fatal(storeText(s))
		}
		in := storeGiven{s, s, once.Plan, lists}
		wantCallsNewMemory(t, "one list for all", in, storeCalls())
		apart := storeGiven{copiedStore(s), copiedStore(s), deepCopy(once.Plan), copiedLists(lists)}
		for name, call := range storeCalls() {
			got, want := call(in), call(apart)
			if !sameStores(got.Store, want.Store) || !sameItems(got.Told, want.Told) {
				t.Errorf("%s: %s, %s", name, storeText(got.Store), impl.ZText(got.Told))
			}
		}
	}
}
