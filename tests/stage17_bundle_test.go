package tests

import (
	"maps"
	"math"
	"slices"
	"testing"

	"loop.example/g00581/impl"
)

const (
	maxEntries = 20
	maxVersion = 1000000
	lastSite   = impl.Modulus - 1
)

func entryOf(site int, handle int, version int, deleted bool) impl.Entry {
	return impl.Entry{Site: site, Handle: handle, Version: version, Deleted: deleted}
}

func active(site int, handle int, version int) impl.Entry {
	return entryOf(site, handle, version, false)
}

func deleted(site int, handle int, version int) impl.Entry {
	return entryOf(site, handle, version, true)
}

func bundleOf(entries ...impl.Entry) impl.Bundle {
	return impl.Bundle{Entries: entries}
}

// bundleOfSize has three handles at each site, and gaps between its sites and its handles.
func bundleOfSize(size int) impl.Bundle {
	b := bundleOf()
	for i := range size {
		b.Entries = append(b.Entries, entryOf(10*(i/3)+5, 20*(i%3)+4, 1+i%4, i%5 == 1))
	}
	return b
}

// bundleOfSites has one handle at each site, so that the order does not depend on the handles.
func bundleOfSites(first int, size int) impl.Bundle {
	b := bundleOf()
	for i := range size {
		b.Entries = append(b.Entries, active(first+i, 4, 2))
	}
	return b
}

// bundleOfHandles has one site for all of its handles.
func bundleOfHandles(first int, size int) impl.Bundle {
	b := bundleOf()
	for i := range size {
		b.Entries = append(b.Entries, active(7, first+i, 2))
	}
	return b
}

func withEntryAt(b impl.Bundle, place int, changed impl.Entry) impl.Bundle {
	b.Entries = slices.Clone(b.Entries)
	b.Entries[place] = changed
	return b
}

func withEntries(b impl.Bundle, place int, more ...impl.Entry) impl.Bundle {
	return bundleOf(slices.Concat(b.Entries[:place], more, b.Entries[place:])...)
}

func withoutEntry(b impl.Bundle, place int) impl.Bundle {
	return bundleOf(slices.Concat(b.Entries[:place], b.Entries[place+1:])...)
}

func cloneBundle(b impl.Bundle) impl.Bundle {
	return bundleOf(slices.Clone(b.Entries)...)
}

func validBundles() []impl.Bundle {
	list := []impl.Bundle{{}, {Entries: []impl.Entry{}}, bundleOf(active(0, 0, 1), deleted(0, maxCounter, maxVersion), deleted(lastSite, 0, maxVersion), active(lastSite, maxCounter, 1))}
	for size := range maxEntries + 1 {
		list = append(list, bundleOfSize(size), bundleOfSites(0, size), bundleOfSites(lastSite-size+1, size), bundleOfHandles(0, size), bundleOfHandles(maxCounter-size+1, size))
	}
	for _, site := range []int{0, 1, lastSite - 1, lastSite} {
		for _, handle := range []int{0, 1, maxCounter - 1, maxCounter} {
			for _, version := range []int{1, 2, maxVersion - 1, maxVersion} {
				list = append(list, bundleOf(active(site, handle, version)), bundleOf(deleted(site, handle, version)))
			}
		}
	}
	return list
}

// invalidBundles break one rule each, the rules about an entry at every place.
func invalidBundles() []impl.Bundle {
	list := []impl.Bundle{bundleOf(impl.Entry{})}
	for _, size := range []int{maxEntries + 1, maxEntries + 2, 2 * maxEntries, 300} {
		list = append(list, bundleOfSize(size), bundleOfSites(0, size), bundleOfHandles(0, size))
	}
	for _, size := range []int{1, 3, maxEntries} {
		b := bundleOfSites(20, size)
		for _, site := range []int{-1, -2, -lastSite, -1 << 32, math.MinInt} {
			list = append(list, withEntryAt(b, 0, active(site, 4, 2)), withEntryAt(b, 0, deleted(site, 4, 2)))
		}
		for _, site := range []int{lastSite + 1, lastSite + 2, 2 * lastSite, 1<<32 + 20, math.MaxInt} {
			list = append(list, withEntryAt(b, size-1, active(site, 4, 2)), withEntryAt(b, size-1, deleted(site, 4, 2)))
		}
		for i, e := range b.Entries {
			for _, handle := range beyondRange(maxCounter) {
				list = append(list, withEntryAt(b, i, active(e.Site, handle, 2)), withEntryAt(b, i, deleted(e.Site, handle, 2)))
			}
			for _, version := range append(beyondRange(maxVersion), 0) {
				list = append(list, withEntryAt(b, i, active(e.Site, 4, version)), withEntryAt(b, i, deleted(e.Site, 4, version)))
			}
		}
	}
	for _, b := range []impl.Bundle{bundleOfSize(2), bundleOfSize(4), bundleOfSize(maxEntries), bundleOfSites(20, 3), bundleOfHandles(20, 3)} {
		list = append(list, bundlesOfWrongOrder(b)...)
	}
	return list
}

// bundlesOfWrongOrder have neighbours in the wrong order, or two entries for one Site and Handle, beside each other and apart.
func bundlesOfWrongOrder(b impl.Bundle) []impl.Bundle {
	list := []impl.Bundle{}
	for i, e := range b.Entries {
		if i > 0 {
			previous := b.Entries[i-1]
			list = append(list, withEntryAt(withEntryAt(b, i-1, e), i, previous), withEntryAt(b, i, previous), withEntryAt(b, i-1, e))
			list = append(list, withEntryAt(b, i, active(previous.Site, previous.Handle-1, 2)), withEntryAt(b, i, active(previous.Site-1, previous.Handle+1, 2)))
		}
		if len(b.Entries) < maxEntries {
			for _, again := range []impl.Entry{e, active(e.Site, e.Handle, e.Version+1), deleted(e.Site, e.Handle, e.Version+1), entryOf(e.Site, e.Handle, e.Version, !e.Deleted)} {
				list = append(list, withEntries(b, i, again), withEntries(b, i+1, again))
			}
		}
	}
	return append(list, withEntryAt(b, 0, b.Entries[len(b.Entries)-1]), bundleOf(b.Entries[1], b.Entries[0], b.Entries[1]))
}

func isBefore(e impl.Entry, site int, handle int) bool {
	return e.Site < site || e.Site == site && e.Handle < handle
}

// entriesBefore is the place of a new entry.
func entriesBefore(b impl.Bundle, site int, handle int) int {
	count := 0
	for _, e := range b.Entries {
		if isBefore(e, site, handle) {
			count++
		}
	}
	return count
}

func expectedBundle(b impl.Bundle) bool {
	for i, e := range b.Entries {
		if e.Site < 0 || e.Site >= 2147483647 || e.Handle < 0 || e.Handle > 1000000 || e.Version < 1 || e.Version > 1000000 {
			return false
		}
		if i > 0 && !isBefore(b.Entries[i-1], e.Site, e.Handle) {
			return false
		}
	}
	return len(b.Entries) <= 20
}

func expectedEntry(b impl.Bundle, site int, handle int) int {
	for i, e := range b.Entries {
		if e.Site == site && e.Handle == handle {
			return i
		}
	}
	return -1
}

func expectedPut(b impl.Bundle, site int, handle int) (impl.Bundle, bool) {
	place := expectedEntry(b, site, handle)
	put := b
	switch {
	case place >= 0 && !b.Entries[place].Deleted:
		return b, false
	case place >= 0:
		put = withEntryAt(b, place, active(site, handle, b.Entries[place].Version+1))
	default:
		put = withEntries(b, entriesBefore(b, site, handle), active(site, handle, 1))
	}
	if !expectedBundle(b) || !expectedBundle(put) {
		return b, false
	}
	return put, true
}

func expectedDeleted(b impl.Bundle, site int, handle int) (impl.Bundle, bool) {
	place := expectedEntry(b, site, handle)
	if place < 0 || b.Entries[place].Deleted || b.Entries[place].Version == 1000000 || !expectedBundle(b) {
		return b, false
	}
	return withEntryAt(b, place, deleted(site, handle, b.Entries[place].Version+1)), true
}

// expectedMerged collects by Site and Handle, in no order, and sorts afterwards.
func expectedMerged(a impl.Bundle, b impl.Bundle) (impl.Bundle, bool) {
	latest := map[[2]int]impl.Entry{}
	for _, e := range slices.Concat(a.Entries, b.Entries) {
		kept := latest[[2]int{e.Site, e.Handle}]
		if e.Version > kept.Version || e.Version == kept.Version && e.Deleted {
			latest[[2]int{e.Site, e.Handle}] = e
		}
	}
	merged := bundleOf(slices.SortedFunc(maps.Values(latest), func(e impl.Entry, other impl.Entry) int {
		return slices.Compare([]int{e.Site, e.Handle}, []int{other.Site, other.Handle})
	})...)
	if !expectedBundle(a) || !expectedBundle(b) || !expectedBundle(merged) {
		return a, false
	}
	return merged, true
}

func expectedActive(b impl.Bundle) []impl.Entry {
	list := []impl.Entry{}
	for _, e := range b.Entries {
		if !e.Deleted {
			list = append(list, e)
		}
	}
	return list
}

func sameBundle(a impl.Bundle, b impl.Bundle) bool {
	return slices.Equal(a.Entries, b.Entries)
}

func checkBundle(t *testing.T, b impl.Bundle, want bool) {
	t.Helper()
	if got := impl.IsBundle(b); got != want {
		t.Errorf("IsBundle(%+v) = %v", b, got)
	}
}

func checkEntryAt(t *testing.T, b impl.Bundle, site int, handle int, want int) {
	t.Helper()
	if got := impl.FindEntry(b, site, handle); got != want {
		t.Errorf("FindEntry(%+v, %d, %d) = %d, want %d", b, site, handle, got, want)
	}
}

func checkPut(t *testing.T, b impl.Bundle, site int, handle int, want ...impl.Entry) impl.Bundle {
	t.Helper()
	got, ok := impl.PutEntry(b, site, handle)
	if !sameBundle(got, bundleOf(want...)) || !ok {
		t.Errorf("PutEntry(%+v, %d, %d) = %+v, %v, want %+v, true", b, site, handle, got, ok, want)
	}
	return got
}

func checkNotPut(t *testing.T, b impl.Bundle, site int, handle int) {
	t.Helper()
	if got, ok := impl.PutEntry(b, site, handle); !sameBundle(got, b) || ok {
		t.Errorf("PutEntry(%+v, %d, %d) = %+v, %v", b, site, handle, got, ok)
	}
}

func checkPutAsExpected(t *testing.T, b impl.Bundle, site int, handle int) bool {
	t.Helper()
	want, ok := expectedPut(b, site, handle)
	if ok {
		checkPut(t, b, site, handle, want.Entries...)
	} else {
		checkNotPut(t, b, site, handle)
	}
	return ok
}

func checkDeleted(t *testing.T, b impl.Bundle, site int, handle int, want ...impl.Entry) impl.Bundle {
	t.Helper()
	got, ok := impl.DeleteEntry(b, site, handle)
	if !sameBundle(got, bundleOf(want...)) || !ok {
		t.Errorf("DeleteEntry(%+v, %d, %d) = %+v, %v, want %+v, true", b, site, handle, got, ok, want)
	}
	return got
}

func checkNotDeleted(t *testing.T, b impl.Bundle, site int, handle int) {
	t.Helper()
	if got, ok := impl.DeleteEntry(b, site, handle); !sameBundle(got, b) || ok {
		t.Errorf("DeleteEntry(%+v, %d, %d) = %+v, %v", b, site, handle, got, ok)
	}
}

func checkDeletedAsExpected(t *testing.T, b impl.Bundle, site int, handle int) bool {
	t.Helper()
	want, ok := expectedDeleted(b, site, handle)
	if ok {
		checkDeleted(t, b, site, handle, want.Entries...)
	} else {
		checkNotDeleted(t, b, site, handle)
	}
	return ok
}

// checkMerged expects the same entries for both orders of the bundles.
func checkMerged(t *testing.T, a impl.Bundle, b impl.Bundle, want ...impl.Entry) impl.Bundle {
	t.Helper()
	got, ok := impl.MergeBundles(a, b)
	if !sameBundle(got, bundleOf(want...)) || !ok {
		t.Errorf("MergeBundles(%+v, %+v) = %+v, %v, want %+v, true", a, b, got, ok, want)
	}
	if got, ok := impl.MergeBundles(b, a); !sameBundle(got, bundleOf(want...)) || !ok {
		t.Errorf("MergeBundles(%+v, %+v) = %+v, %v, want %+v, true", b, a, got, ok, want)
	}
	return got
}

// checkNotMerged expects a copy of the first bundle, for both orders of them.
func checkNotMerged(t *testing.T, a impl.Bundle, b impl.Bundle) {
	t.Helper()
	if got, ok := impl.MergeBundles(a, b); !sameBundle(got, a) || ok {
		t.Errorf("MergeBundles(%+v, %+v) = %+v, %v", a, b, got, ok)
	}
	if got, ok := impl.MergeBundles(b, a); !sameBundle(got, b) || ok {
		t.Errorf("MergeBundles(%+v, %+v) = %+v, %v", b, a, got, ok)
	}
}

func checkIncluded(t *testing.T, a impl.Bundle, b impl.Bundle, want bool) {
	t.Helper()
	if got := impl.IncludesBundle(a, b); got != want {
		t.Errorf("IncludesBundle(%+v, %+v) = %v", a, b, got)
	}
}

// checkMergedAsExpected also asks which of the two bundles includes the other one.
func checkMergedAsExpected(t *testing.T, a impl.Bundle, b impl.Bundle) bool {
	t.Helper()
	want, ok := expectedMerged(a, b)
	if !ok {
		checkNotMerged(t, a, b)
		checkIncluded(t, a, b, false)
		checkIncluded(t, b, a, false)
		return false
	}
	merged := checkMerged(t, a, b, want.Entries...)
	checkBundle(t, merged, true)
	checkIncluded(t, a, b, sameBundle(want, a))
	checkIncluded(t, b, a, sameBundle(want, b))
	checkIncluded(t, merged, a, true)
	checkIncluded(t, merged, b, true)
	return true
}

func checkActive(t *testing.T, b impl.Bundle, want ...impl.Entry) {
	t.Helper()
	if got := impl.ActiveEntries(b); !slices.Equal(got, want) {
		t.Errorf("ActiveEntries(%+v) = %+v, want %+v", b, got, want)
	}
}

func checkEqualBundles(t *testing.T, a impl.Bundle, b impl.Bundle, want bool) {
	t.Helper()
	if got := impl.EqualBundles(a, b); got != want {
		t.Errorf("EqualBundles(%+v, %+v) = %v", a, b, got)
	}
	if got := impl.EqualBundles(b, a); got != want {
		t.Errorf("EqualBundles(%+v, %+v) = %v", b, a, got)
	}
}

func TestBundleLimits(t *testing.T) {
	if impl.MaxEntries != 20 || impl.MaxVersion != 1000000 {
		t.Errorf("MaxEntries is %d and MaxVersion is %d", impl.MaxEntries, impl.MaxVersion)
	}
}

func TestIsBundle(t *testing.T) {
	for _, b := range validBundles() {
		checkBundle(t, b, true)
	}
	for _, b := range invalidBundles() {
		checkBundle(t, b, false)
	}
}

func TestIsBundleAtTheEndsOfTheRanges(t *testing.T) {
	for n, want := range map[int]bool{-2: false, -1: false, 0: true, 1: true, 2147483645: true, 2147483646: true, 2147483647: false, 2147483648: false, math.MinInt: false, math.MaxInt: false} {
		checkBundle(t, bundleOf(active(n, 3, 1)), want)
		checkBundle(t, bundleOf(deleted(n, 3, 1)), want)
	}
	for n, want := range map[int]bool{-2: false, -1: false, 0: true, 1: true, 999999: true, 1000000: true, 1000001: false, 1000002: false, math.MinInt: false, math.MaxInt: false} {
		checkBundle(t, bundleOf(active(5, n, 1)), want)
		checkBundle(t, bundleOf(deleted(5, n, 1)), want)
	}
	for n, want := range map[int]bool{-1: false, 0: false, 1: true, 2: true, 999999: true, 1000000: true, 1000001: false, 1000002: false, math.MinInt: false, math.MaxInt: false} {
		checkBundle(t, bundleOf(active(5, 3, n)), want)
		checkBundle(t, bundleOf(deleted(5, 3, n)), want)
	}
}

func TestIsBundleOfEverySize(t *testing.T) {
	for size := range 50 {
		checkBundle(t, bundleOfSize(size), size <= 20)
		checkBundle(t, bundleOfSites(0, size), size <= 20)
		checkBundle(t, bundleOfHandles(0, size), size <= 20)
	}
}

// The Handle counts for equal Sites only, and neither the Version nor Deleted counts for the order.
func TestIsBundleOfEveryOrder(t *testing.T) {
	places := []impl.Entry{active(5, 3, 2), deleted(5, 8, 1), active(9, 0, 7), active(9, 3, 1), deleted(11, 3, 2)}
	for size := range len(places) + 1 {
		for _, entries := range arrangements(places, size) {
			ascending := slices.IsSortedFunc(entries, func(e impl.Entry, other impl.Entry) int {
				return (e.Site*100 + e.Handle) - (other.Site*100 + other.Handle)
			})
			checkBundle(t, bundleOf(entries...), ascending)
		}
	}
	checkBundle(t, bundleOf(active(5, 9, 1), active(6, 3, 1)), true)
	checkBundle(t, bundleOf(active(5, 3, 2), active(5, 4, 1)), true)
	checkBundle(t, bundleOf(active(5, 3, 1), active(5, 3, 2)), false)
	checkBundle(t, bundleOf(active(5, 3, 1), deleted(5, 3, 1)), false)
	checkBundle(t, bundleOf(active(5, 3, 1), active(5, 3, 1)), false)
}

func TestIsBundleFollowsItsDefinition(t *testing.T) {
	numbers := append(anyInts(), 2, maxVersion-1, maxVersion, maxVersion+1, lastSite, impl.Modulus)
	for _, a := range numbers {
		for _, b := range numbers {
			for _, c := range numbers {
				for _, x := range []impl.Bundle{bundleOf(active(a, b, c)), bundleOf(deleted(a, b, c)), bundleOf(active(a, b, 1), deleted(b, c, 1)), bundleOf(active(a, 3, c), active(b, 3, c)), bundleOf(active(c, a, 2), active(c, b, 1))} {
					checkBundle(t, x, expectedBundle(x))
				}
			}
		}
	}
}

func TestFindEntry(t *testing.T) {
	b := bundleOf(active(5, 1, 1), deleted(5, 4, 2), active(9, 0, 3))
	for place, e := range b.Entries {
		checkEntryAt(t, b, e.Site, e.Handle, place)
	}
	for _, missing := range [][2]int{{5, 0}, {5, 2}, {5, 5}, {9, 1}, {9, 4}, {0, 0}, {4, 1}, {1, 5}, {6, 1}, {10, 0}, {5 + impl.Modulus, 1}, {-5, 1}, {math.MinInt, math.MaxInt}} {
		checkEntryAt(t, b, missing[0], missing[1], -1)
	}
	checkEntryAt(t, impl.Bundle{}, 0, 0, -1)
	checkEntryAt(t, impl.Bundle{}, 5, 1, -1)
	checkEntryAt(t, bundleOf(), math.MinInt, -1, -1)
}

func TestFindEntryFollowsItsDefinition(t *testing.T) {
	for _, b := range append(validBundles(), invalidBundles()...) {
		for _, e := range b.Entries {
			for _, site := range []int{e.Site, e.Site + 1, e.Site - 1} {
				for _, handle := range []int{e.Handle, e.Handle + 1, e.Handle - 1, 0} {
					checkEntryAt(t, b, site, handle, expectedEntry(b, site, handle))
				}
			}
		}
		checkEntryAt(t, b, 1<<32, 3, -1)
	}
}

// Of several entries, in a bundle that is not valid, it is the first one.
func TestFindEntryOfAnInvalidBundle(t *testing.T) {
	several := bundleOf(active(9, 1, 1), active(4, 1, 1), deleted(-1, -1, -1), deleted(4, 1, 7), active(9, 1, 3), active(4, 2, 0), active(4, 2, 5))
	checkEntryAt(t, several, 9, 1, 0)
	checkEntryAt(t, several, 4, 1, 1)
	checkEntryAt(t, several, -1, -1, 2)
	checkEntryAt(t, several, 4, 2, 5)
	checkEntryAt(t, several, 0, 0, -1)
	checkEntryAt(t, bundleOf(make([]impl.Entry, 300)...), 0, 0, 0)
	checkEntryAt(t, bundleOfHandles(0, 300), 7, 299, 299)
	checkEntryAt(t, bundleOf(active(math.MaxInt, math.MinInt, 0)), math.MaxInt, math.MinInt, 0)
}

func TestPutEntry(t *testing.T) {
	first, second := active(5, 4, 3), deleted(9, 4, 1)
	b := bundleOf(first, second)
	for _, c := range []struct {
		site   int
		handle int
		want   []impl.Entry
	}{
		{0, 0, []impl.Entry{active(0, 0, 1), first, second}}, {4, 1000000, []impl.Entry{active(4, 1000000, 1), first, second}}, {5, 3, []impl.Entry{active(5, 3, 1), first, second}},
		{5, 5, []impl.Entry{first, active(5, 5, 1), second}}, {7, 0, []impl.Entry{first, active(7, 0, 1), second}}, {9, 3, []impl.Entry{first, active(9, 3, 1), second}},
		{9, 5, []impl.Entry{first, second, active(9, 5, 1)}}, {10, 0, []impl.Entry{first, second, active(10, 0, 1)}}, {2147483646, 4, []impl.Entry{first, second, active(2147483646, 4, 1)}},
		{9, 4, []impl.Entry{first, active(9, 4, 2)}},
	} {
		checkPut(t, b, c.site, c.handle, c.want...)
	}
	checkNotPut(t, b, 5, 4)
	checkPut(t, impl.Bundle{}, 5, 4, active(5, 4, 1))
	checkPut(t, impl.Bundle{}, 0, 0, active(0, 0, 1))
	checkPut(t, bundleOf(deleted(5, 4, 7)), 5, 4, active(5, 4, 8))
}

func TestPutEntryAtEveryPlace(t *testing.T) {
	for size := range maxEntries {
		b := bundleOfSize(size + 1)
		for place, e := range b.Entries {
			rest := withoutEntry(b, place)
			put := checkPut(t, rest, e.Site, e.Handle, withEntryAt(b, place, active(e.Site, e.Handle, 1)).Entries...)
			checkBundle(t, put, true)
			checkEntryAt(t, put, e.Site, e.Handle, place)
			checkNotPut(t, put, e.Site, e.Handle)
			back := withEntryAt(b, place, deleted(e.Site, e.Handle, 6))
			checkPut(t, back, e.Site, e.Handle, withEntryAt(b, place, active(e.Site, e.Handle, 7)).Entries...)
		}
	}
}

func TestPutEntryFollowsItsDefinition(t *testing.T) {
	outcomes := map[bool]int{}
	for _, b := range append(validBundles(), invalidBundles()...) {
		for _, site := range []int{0, 5, 7, 9, 15, 21, lastSite - 3, lastSite} {
			for _, handle := range []int{0, 4, 5, 24, maxCounter - 1, maxCounter} {
				outcomes[checkPutAsExpected(t, b, site, handle)]++
			}
		}
		for _, e := range b.Entries {
			outcomes[checkPutAsExpected(t, b, e.Site, e.Handle)]++
			outcomes[checkPutAsExpected(t, b, e.Site, e.Handle+1)]++
		}
	}
	if outcomes[true] < 1000 || outcomes[false] < 1000 {
		t.Errorf("the outcomes are %v", outcomes)
	}
}

// A full bundle takes no new entry, but a deleted one back.
func TestPutEntryUpToTheLimit(t *testing.T) {
	b := impl.Bundle{}
	for i := range maxEntries {
		handle := (7 * i) % maxEntries
		b = checkPut(t, b, 3, handle, withEntries(b, entriesBefore(b, 3, handle), active(3, handle, 1)).Entries...)
		checkBundle(t, b, true)
	}
	for handle := range 100 {
		checkNotPut(t, b, 3, handle)
		checkNotPut(t, b, 2, handle)
		checkNotPut(t, b, 4, handle)
	}
	for place, e := range b.Entries {
		full := withEntryAt(b, place, deleted(3, e.Handle, 2))
		checkPut(t, full, 3, e.Handle, withEntryAt(b, place, active(3, e.Handle, 3)).Entries...)
		checkNotPut(t, full, 3, 20)
	}
	for size := maxEntries - 1; size <= maxEntries+1; size++ {
		for _, c := range [][2]int{{0, 0}, {6, 0}, {lastSite, maxCounter}} {
			if ok := checkPutAsExpected(t, bundleOfSize(size), c[0], c[1]); ok != (size < 20) {
				t.Errorf("with %d entries, PutEntry of %v gives %v", size, c, ok)
			}
		}
	}
}

func TestPutEntryAtTheEndsOfTheRanges(t *testing.T) {
	for _, b := range []impl.Bundle{{}, bundleOf(active(5, 3, 1)), bundleOf(deleted(5, 3, 1), active(9, 3, 1)), bundleOfSize(19), bundleOfSize(20)} {
		for n, want := range map[int]bool{-2: false, -1: false, 0: true, 1: true, 2147483645: true, 2147483646: true, 2147483647: false, 2147483648: false, 1<<32 + 7: false, math.MinInt: false, math.MaxInt: false} {
			if ok := checkPutAsExpected(t, b, n, 99); ok != (want && len(b.Entries) < 20) {
				t.Errorf("PutEntry(%+v, %d, 99) gives %v", b, n, ok)
			}
		}
		for n, want := range map[int]bool{-2: false, -1: false, 0: true, 1: true, 999999: true, 1000000: true, 1000001: false, 1000002: false, 1<<32 + 7: false, math.MinInt: false, math.MaxInt: false} {
			if ok := checkPutAsExpected(t, b, 99, n); ok != (want && len(b.Entries) < 20) {
				t.Errorf("PutEntry(%+v, 99, %d) gives %v", b, n, ok)
			}
		}
	}
}

func TestChangesUpToTheLastVersion(t *testing.T) {
	before, behind := active(5, 1, maxVersion), deleted(5, 5, maxVersion)
	at := func(e impl.Entry) impl.Bundle {
		return bundleOf(before, e, behind)
	}
	checkPut(t, at(deleted(5, 3, 999998)), 5, 3, at(active(5, 3, 999999)).Entries...)
	checkPut(t, at(deleted(5, 3, 999999)), 5, 3, at(active(5, 3, 1000000)).Entries...)
	checkNotPut(t, at(deleted(5, 3, 1000000)), 5, 3)
	checkNotPut(t, at(active(5, 3, 1000000)), 5, 3)
	checkDeleted(t, at(active(5, 3, 999998)), 5, 3, at(deleted(5, 3, 999999)).Entries...)
	checkDeleted(t, at(active(5, 3, 999999)), 5, 3, at(deleted(5, 3, 1000000)).Entries...)
	checkNotDeleted(t, at(active(5, 3, 1000000)), 5, 3)
	checkNotDeleted(t, at(deleted(5, 3, 1000000)), 5, 3)
	checkDeleted(t, bundleOf(before, active(5, 3, 1)), 5, 3, before, deleted(5, 3, 2))
	checkPut(t, bundleOf(before, deleted(5, 3, 1)), 5, 3, before, active(5, 3, 2))
	for _, version := range []int{0, -1, 1000001, math.MaxInt, math.MinInt} {
		checkNotPut(t, at(deleted(5, 3, version)), 5, 3)
		checkNotDeleted(t, at(active(5, 3, version)), 5, 3)
		checkNotPut(t, at(deleted(5, 3, version)), 5, 4)
		checkNotDeleted(t, at(deleted(5, 3, version)), 5, 1)
	}
}

func TestPutEntryThatExists(t *testing.T) {
	for _, b := range validBundles() {
		for _, e := range b.Entries {
			if !e.Deleted {
				checkNotPut(t, b, e.Site, e.Handle)
			}
		}
	}
}

func TestDeleteEntry(t *testing.T) {
	first, second, third := active(5, 4, 3), active(9, 4, 1), active(9, 6, 2)
	b := bundleOf(first, second, third)
	checkDeleted(t, b, 5, 4, deleted(5, 4, 4), second, third)
	checkDeleted(t, b, 9, 4, first, deleted(9, 4, 2), third)
	checkDeleted(t, b, 9, 6, first, second, deleted(9, 6, 3))
	checkDeleted(t, bundleOf(active(0, 0, 1)), 0, 0, deleted(0, 0, 2))
	checkDeleted(t, bundleOf(active(2147483646, 1000000, 1)), 2147483646, 1000000, deleted(2147483646, 1000000, 2))
	checkNotDeleted(t, bundleOf(first, deleted(9, 4, 2), third), 9, 4)
	checkNotDeleted(t, impl.Bundle{}, 0, 0)
	checkNotDeleted(t, impl.Bundle{}, 5, 4)
}

func TestDeleteEntryAtEveryPlace(t *testing.T) {
	for size := range maxEntries + 1 {
		b := bundleOfSites(20, size)
		for place, e := range b.Entries {
			rest := checkDeleted(t, b, e.Site, 4, withEntryAt(b, place, deleted(e.Site, 4, 3)).Entries...)
			checkBundle(t, rest, true)
			checkEntryAt(t, rest, e.Site, 4, place)
			checkNotDeleted(t, rest, e.Site, 4)
		}
	}
}

func TestDeleteEntryFollowsItsDefinition(t *testing.T) {
	outcomes := map[bool]int{}
	for _, b := range append(validBundles(), invalidBundles()...) {
		for _, e := range b.Entries {
			outcomes[checkDeletedAsExpected(t, b, e.Site, e.Handle)]++
			outcomes[checkDeletedAsExpected(t, b, e.Site, e.Handle+1)]++
			outcomes[checkDeletedAsExpected(t, b, e.Site+1, e.Handle)]++
		}
	}
	if outcomes[true] < 500 || outcomes[false] < 1000 {
		t.Errorf("the outcomes are %v", outcomes)
	}
}

func TestDeleteEntryThatIsNotThere(t *testing.T) {
	for _, b := range validBundles() {
		for _, c := range [][2]int{{6, 4}, {5, 3}, {15, 6}, {-1, 0}, {0, -1}, {impl.Modulus, 0}, {5, maxCounter + 1}, {5 + 1<<32, 4}, {math.MinInt, math.MaxInt}, {math.MaxInt, math.MinInt}} {
			if expectedEntry(b, c[0], c[1]) < 0 {
				checkNotDeleted(t, b, c[0], c[1])
			}
		}
		for _, e := range b.Entries {
			if e.Deleted {
				checkNotDeleted(t, b, e.Site, e.Handle)
			}
		}
	}
}

// Each change is one version more, and the entry never leaves the bundle.
func TestPutAndDeleteInTurn(t *testing.T) {
	for _, b := range []impl.Bundle{{}, bundleOf(active(5, 3, 9)), bundleOf(active(5, 3, 9), deleted(9, 3, 9)), bundleOfSize(19)} {
		place := entriesBefore(b, 6, 3)
		for version := 1; version < 100; version += 2 {
			b = checkPut(t, b, 6, 3, replacedEntry(b, place, active(6, 3, version))...)
			checkNotPut(t, b, 6, 3)
			b = checkDeleted(t, b, 6, 3, replacedEntry(b, place, deleted(6, 3, version+1))...)
			checkNotDeleted(t, b, 6, 3)
		}
	}
}

// replacedEntry has the entry at the place, where there may be an earlier version of it.
func replacedEntry(b impl.Bundle, place int, e impl.Entry) []impl.Entry {
	if expectedEntry(b, e.Site, e.Handle) == place {
		b = withoutEntry(b, place)
	}
	return withEntries(b, place, e).Entries
}

func TestChangesOfAnInvalidBundle(t *testing.T) {
	for _, b := range invalidBundles() {
		for _, c := range [][2]int{{0, 0}, {6, 3}, {lastSite, maxCounter}, {-1, 0}, {0, -1}} {
			checkNotPut(t, b, c[0], c[1])
			checkNotDeleted(t, b, c[0], c[1])
		}
		for _, e := range b.Entries {
			checkNotPut(t, b, e.Site, e.Handle)
			checkNotDeleted(t, b, e.Site, e.Handle)
		}
	}
	// The entry itself would be fine in these, also once it is changed.
	twice := bundleOf(active(5, 3, 1), active(6, 3, 1), deleted(6, 3, 2))
	for _, b := range []impl.Bundle{twice, bundleOf(deleted(6, 3, 2), active(5, 3, 1)), bundleOf(active(6, 3, 1), deleted(5, 3, 1), active(7, 3, 1)), bundleOf(active(5, 3, 1), deleted(6, 3, 1), active(7, 3, 0))} {
		for _, site := range []int{5, 6, 7, 8} {
			checkNotPut(t, b, site, 3)
			checkNotDeleted(t, b, site, 3)
		}
	}
}

func TestMergeBundles(t *testing.T) {
	a := bundleOf(active(5, 1, 1), active(9, 0, 4))
	checkMerged(t, a, bundleOf(active(2, 3, 1), deleted(5, 3, 2), active(11, 0, 1)), active(2, 3, 1), active(5, 1, 1), deleted(5, 3, 2), active(9, 0, 4), active(11, 0, 1))
	checkMerged(t, a, bundleOf(active(5, 0, 1), active(5, 2, 1), active(9, 1, 3)), active(5, 0, 1), active(5, 1, 1), active(5, 2, 1), active(9, 0, 4), active(9, 1, 3))
	checkMerged(t, a, a, a.Entries...)
	checkMerged(t, a, bundleOf(active(9, 0, 4)), a.Entries...)
	checkMerged(t, a, bundleOf(deleted(5, 1, 2)), deleted(5, 1, 2), active(9, 0, 4))
	checkMerged(t, a, bundleOf(deleted(9, 0, 3)), a.Entries...)
	checkMerged(t, a, bundleOf(active(5, 1, 3), deleted(9, 0, 2)), active(5, 1, 3), active(9, 0, 4))
	checkMerged(t, a, impl.Bundle{}, a.Entries...)
	checkMerged(t, impl.Bundle{}, impl.Bundle{})
	checkMerged(t, impl.Bundle{}, bundleOf())
}

// At equal versions a deletion stays, from whichever bundle it comes.
func TestMergeBundlesOfEqualVersions(t *testing.T) {
	before, behind := active(5, 1, 1), active(7, 1, 1)
	for _, version := range []int{1, 2, 7, 999999, 1000000} {
		there, gone := active(6, 3, version), deleted(6, 3, version)
		checkMerged(t, bundleOf(there), bundleOf(there), there)
		checkMerged(t, bundleOf(gone), bundleOf(gone), gone)
		checkMerged(t, bundleOf(there), bundleOf(gone), gone)
		checkMerged(t, bundleOf(gone), bundleOf(there), gone)
		checkMerged(t, bundleOf(before, there), bundleOf(gone, behind), before, gone, behind)
		checkMerged(t, bundleOf(before, gone, behind), bundleOf(before, there, behind), before, gone, behind)
	}
}

// A greater version stays, whether it or the other one is deleted.
func TestMergeBundlesOfGreaterVersions(t *testing.T) {
	before, behind := active(5, 1, 1), active(7, 1, 1)
	for _, versions := range [][2]int{{1, 2}, {2, 3}, {1, 1000000}, {999999, 1000000}, {9, 10}, {255, 256}, {1, 65537}} {
		for _, older := range []impl.Entry{active(6, 3, versions[0]), deleted(6, 3, versions[0])} {
			for _, newer := range []impl.Entry{active(6, 3, versions[1]), deleted(6, 3, versions[1])} {
				checkMerged(t, bundleOf(older), bundleOf(newer), newer)
				checkMerged(t, bundleOf(before, older), bundleOf(newer, behind), before, newer, behind)
				checkMerged(t, bundleOf(older, behind), bundleOf(before, newer), before, newer, behind)
			}
		}
	}
}

// Entries of one site with other handles, and of one handle at other sites, have versions of their own.
func TestMergeBundlesOfOtherPlaces(t *testing.T) {
	a, b := bundleOf(active(5, 3, 1), active(5, 4, 9), active(6, 3, 1)), bundleOf(deleted(5, 2, 9), deleted(5, 3, 1), active(7, 3, 9))
	checkMerged(t, a, b, deleted(5, 2, 9), deleted(5, 3, 1), active(5, 4, 9), active(6, 3, 1), active(7, 3, 9))
	checkMerged(t, bundleOfHandles(0, 5), bundleOfHandles(3, 6), bundleOfHandles(0, 9).Entries...)
	checkMerged(t, bundleOfSites(0, 5), bundleOfSites(3, 6), bundleOfSites(0, 9).Entries...)
	even, odd, all := bundleOf(), bundleOf(), bundleOfSize(20)
	for i, e := range all.Entries {
		if i%2 == 0 {
			even.Entries = append(even.Entries, e)
		} else {
			odd.Entries = append(odd.Entries, e)
		}
	}
	checkMerged(t, even, odd, all.Entries...)
	checkMerged(t, even, all, all.Entries...)
	checkMerged(t, bundleOf(all.Entries[:10]...), bundleOf(all.Entries[10:]...), all.Entries...)
}

func TestMergeBundlesFollowsItsDefinition(t *testing.T) {
	outcomes := map[bool]int{}
	for _, bundles := range [][]impl.Bundle{smallBundles(), lawfulBundles(), validBundles()} {
		for i, a := range bundles {
			for _, b := range bundles[i:] {
				outcomes[checkMergedAsExpected(t, a, b)]++
			}
		}
	}
	if outcomes[true] < 5000 || outcomes[false] < 1000 {
		t.Errorf("the outcomes are %v", outcomes)
	}
}

func TestMergeBundlesUpToTheLimit(t *testing.T) {
	for size := range maxEntries + 1 {
		for common := range size + 1 {
			for _, more := range []int{maxEntries - size, maxEntries - size + 1, maxEntries} {
				a, b := bundleOfSites(0, size), bundleOfSites(size-common, min(common+more, maxEntries))
				together := size - common + len(b.Entries)
				if ok := checkMergedAsExpected(t, a, b); ok != (together <= 20 || len(b.Entries) == common) {
					t.Errorf("bundles of %d and %d entries with %d in common give %v", size, len(b.Entries), common, ok)
				}
			}
		}
	}
	checkMerged(t, bundleOfSites(0, 20), bundleOfSites(0, 20), bundleOfSites(0, 20).Entries...)
	checkMerged(t, bundleOfSites(0, 10), bundleOfSites(10, 10), bundleOfSites(0, 20).Entries...)
	checkNotMerged(t, bundleOfSites(0, 20), bundleOfSites(1, 20))
	checkNotMerged(t, bundleOfSites(0, 20), bundleOfSites(20, 20))
	checkNotMerged(t, bundleOfSites(0, 20), bundleOfSites(20, 1))
	checkNotMerged(t, bundleOfSites(0, 11), bundleOfSites(11, 10))
	checkNotMerged(t, bundleOfSites(1, 20), bundleOfSites(0, 1))
}

// Deleted entries count as well, since they stay.
func TestMergeBundlesOfManyDeletedEntries(t *testing.T) {
	a, b := bundleOfSites(0, 20), bundleOfSites(20, 1)
	for i, e := range a.Entries {
		a.Entries[i] = deleted(e.Site, e.Handle, e.Version)
	}
	checkNotMerged(t, a, b)
	checkNotPut(t, a, 20, 4)
	checkMerged(t, bundleOf(a.Entries[1:]...), b, append(slices.Clone(a.Entries[1:]), b.Entries[0])...)
	checkMerged(t, a, bundleOfSites(0, 20), a.Entries...)
}

func TestMergeBundlesOfInvalidBundles(t *testing.T) {
	for _, b := range invalidBundles() {
		for _, other := range []impl.Bundle{{}, bundleOf(active(5, 4, 1)), bundleOfSize(3), bundleOfSites(0, 20), b, bundleOf(impl.Entry{}), bundleOfSize(21)} {
			checkNotMerged(t, b, other)
			checkIncluded(t, b, other, false)
			checkIncluded(t, other, b, false)
		}
	}
	// Merging would repair these, if their entries were taken one by one.
	repaired := bundleOf(active(5, 3, 1), active(6, 3, 2))
	for _, b := range []impl.Bundle{bundleOf(repaired.Entries[1], repaired.Entries[0]), bundleOf(active(5, 3, 1), active(6, 3, 1), active(6, 3, 2)), bundleOf(active(5, 3, 1), active(6, 3, 0))} {
		checkNotMerged(t, b, repaired)
		checkNotMerged(t, b, impl.Bundle{})
		checkIncluded(t, repaired, b, false)
	}
}

// smallBundles are all that have at most one entry of few versions at each of two places.
func smallBundles() []impl.Bundle {
	list := []impl.Bundle{}
	for _, first := range entriesAt(5, 3) {
		for _, second := range entriesAt(5, 4) {
			list = append(list, bundleOf(slices.Concat(first, second)...))
		}
	}
	return list
}

func entriesAt(site int, handle int) [][]impl.Entry {
	list := [][]impl.Entry{{}}
	for version := 1; version <= 3; version++ {
		list = append(list, []impl.Entry{active(site, handle, version)}, []impl.Entry{deleted(site, handle, version)})
	}
	return list
}

// lawfulBundles are of every size, with the same and other places and versions.
func lawfulBundles() []impl.Bundle {
	list := []impl.Bundle{{}, bundleOfSites(0, 20), bundleOfSites(0, 10), bundleOfSites(5, 10), bundleOfSites(10, 10), bundleOfSites(10, 11), bundleOfSites(20, 1), bundleOfSize(20), bundleOfSize(9), bundleOfHandles(0, 7), bundleOfHandles(5, 9), bundleOf(active(0, 4, maxVersion), deleted(lastSite, 4, maxVersion))}
	for start := 1; start <= 20; start++ {
		draw := start
		below := func(n int) int {
			draw = (draw*48271 + 11) % impl.Modulus
			return draw / 7 % n
		}
		b := bundleOf()
		for place := range 16 {
			if below(3) > 0 {
				b.Entries = append(b.Entries, entryOf(place/2, place%2, 1+below(3), below(2) == 0))
			}
		}
		list = append(list, b)
	}
	return list
}

// Promise 17.
func TestMergingIsCommutative(t *testing.T) {
	for _, bundles := range [][]impl.Bundle{smallBundles(), lawfulBundles(), validBundles()} {
		for i, a := range bundles {
			for _, b := range bundles[i:] {
				one, ok := impl.MergeBundles(a, b)
				other, also := impl.MergeBundles(b, a)
				if ok != also || ok && !impl.EqualBundles(one, other) {
					t.Errorf("merging %+v and %+v gives %+v, %v and %+v, %v", a, b, one, ok, other, also)
				}
			}
		}
	}
}

func mergeInARow(bundles ...impl.Bundle) (impl.Bundle, bool) {
	merged := bundles[0]
	for _, b := range bundles[1:] {
		next, ok := impl.MergeBundles(merged, b)
		if !ok {
			return impl.Bundle{}, false
		}
		merged = next
	}
	return merged, true
}

// Promise 17: a merge that fails does so in the other order too, as the entries of all are too many for any.
func TestMergingIsAssociative(t *testing.T) {
	outcomes := map[bool]int{}
	for _, bundles := range [][]impl.Bundle{smallBundles(), lawfulBundles()} {
		for _, a := range bundles {
			for _, b := range bundles {
				for _, c := range bundles {
					left, ok := mergeInARow(a, b, c)
					right, also := mergeInARow(b, c, a)
					behind, both := impl.MergeBundles(b, c)
					if both {
						behind, both = impl.MergeBundles(a, behind)
					}
					if ok != also || ok != both || ok && (!sameBundle(left, right) || !sameBundle(left, behind)) {
						t.Errorf("merging %+v, %+v and %+v gives %+v, %v, then %+v, %v and %+v, %v", a, b, c, left, ok, right, also, behind, both)
					}
					outcomes[ok]++
				}
			}
		}
	}
	if outcomes[true] < 100000 || outcomes[false] < 1000 {
		t.Errorf("the outcomes are %v", outcomes)
	}
}

// Promise 17.
func TestMergingIsIdempotent(t *testing.T) {
	for _, b := range slices.Concat(smallBundles(), lawfulBundles(), validBundles()) {
		checkMerged(t, b, b, b.Entries...)
		checkIncluded(t, b, b, true)
	}
	for i, a := range lawfulBundles() {
		for _, b := range lawfulBundles()[i:] {
			merged, ok := impl.MergeBundles(a, b)
			if ok {
				checkMerged(t, merged, a, merged.Entries...)
				checkMerged(t, merged, b, merged.Entries...)
				checkMerged(t, merged, merged, merged.Entries...)
			}
		}
	}
}

func TestIncludesBundle(t *testing.T) {
	b := bundleOf(active(5, 3, 2), deleted(5, 4, 2), active(9, 0, 1))
	checkIncluded(t, b, b, true)
	checkIncluded(t, b, impl.Bundle{}, true)
	checkIncluded(t, impl.Bundle{}, b, false)
	checkIncluded(t, impl.Bundle{}, impl.Bundle{}, true)
	checkIncluded(t, impl.Bundle{}, bundleOf(), true)
	for place, e := range b.Entries {
		checkIncluded(t, b, withoutEntry(b, place), true)
		checkIncluded(t, withoutEntry(b, place), b, false)
		for _, newer := range []impl.Entry{active(e.Site, e.Handle, e.Version+1), deleted(e.Site, e.Handle, e.Version+1)} {
			checkIncluded(t, withEntryAt(b, place, newer), b, true)
			checkIncluded(t, b, withEntryAt(b, place, newer), false)
		}
		other := withEntryAt(b, place, entryOf(e.Site, e.Handle, e.Version, !e.Deleted))
		checkIncluded(t, other, b, !e.Deleted)
		checkIncluded(t, b, other, e.Deleted)
	}
	checkIncluded(t, b, bundleOf(active(5, 3, 1), deleted(6, 3, 1)), false)
	checkIncluded(t, bundleOf(active(5, 3, 3)), b, false)
}

func TestIncludesBundleOfMergedOnes(t *testing.T) {
	a, b := bundleOf(active(5, 3, 1), active(6, 3, 4)), bundleOf(deleted(5, 3, 2), active(7, 3, 1))
	merged := checkMerged(t, a, b, deleted(5, 3, 2), active(6, 3, 4), active(7, 3, 1))
	checkIncluded(t, merged, a, true)
	checkIncluded(t, merged, b, true)
	checkIncluded(t, a, merged, false)
	checkIncluded(t, b, merged, false)
	checkIncluded(t, a, b, false)
	checkIncluded(t, b, a, false)
}

// What includes both bundles includes the merged one, and two that include each other are equal.
func TestIncludingIsAnOrder(t *testing.T) {
	bundles := smallBundles()
	for _, a := range bundles {
		for _, b := range bundles {
			includes := impl.IncludesBundle(a, b)
			if includes && impl.IncludesBundle(b, a) && !sameBundle(a, b) {
				t.Errorf("%+v and %+v include each other", a, b)
			}
			merged, _ := impl.MergeBundles(a, b)
			for _, c := range bundles {
				both := impl.IncludesBundle(c, a) && impl.IncludesBundle(c, b)
				if both != impl.IncludesBundle(c, merged) || includes && impl.IncludesBundle(c, a) != both {
					t.Errorf("%+v and %+v are in %+v: %v", a, b, c, both)
				}
			}
		}
	}
}

// A full bundle includes nothing that it has no room for, and a changed bundle includes the one before.
func TestIncludesBundleAfterChanges(t *testing.T) {
	checkIncluded(t, bundleOfSites(0, 20), bundleOfSites(20, 1), false)
	checkIncluded(t, bundleOfSites(0, 20), bundleOfSites(1, 20), false)
	checkIncluded(t, bundleOfSites(0, 20), bundleOfSites(1, 19), true)
	for _, b := range validBundles() {
		for _, e := range append(slices.Clone(b.Entries), active(6, 3, 1)) {
			if put, ok := impl.PutEntry(b, e.Site, e.Handle); ok {
				checkIncluded(t, put, b, true)
				checkIncluded(t, b, put, false)
			}
			if rest, ok := impl.DeleteEntry(b, e.Site, e.Handle); ok {
				checkIncluded(t, rest, b, true)
				checkIncluded(t, b, rest, false)
			}
		}
	}
}

func TestActiveEntries(t *testing.T) {
	checkActive(t, bundleOf(active(5, 3, 1), deleted(5, 4, 2), active(9, 0, 1), deleted(9, 3, 1)), active(5, 3, 1), active(9, 0, 1))
	checkActive(t, bundleOf(active(5, 3, 1), active(5, 4, 2)), active(5, 3, 1), active(5, 4, 2))
	checkActive(t, bundleOf(deleted(5, 3, 1), deleted(5, 4, 2)))
	checkActive(t, bundleOf(deleted(0, 0, 1)))
	checkActive(t, impl.Bundle{})
	checkActive(t, bundleOf())
}

// Each set of the entries is what is active in some bundle.
func TestActiveEntriesOfEverySet(t *testing.T) {
	for set := range 1 << 8 {
		b, want := bundleOf(), []impl.Entry{}
		for i := range 8 {
			e := entryOf(i, 4, 3, set>>i&1 == 0)
			b.Entries = append(b.Entries, e)
			if !e.Deleted {
				want = append(want, e)
			}
		}
		checkActive(t, b, want...)
	}
}

// The entries need be neither in range nor in order.
func TestActiveEntriesOfEveryBundle(t *testing.T) {
	for _, b := range append(validBundles(), invalidBundles()...) {
		checkActive(t, b, expectedActive(b)...)
	}
	checkActive(t, bundleOf(active(9, 3, 0), deleted(math.MinInt, 3, 1), active(5, -1, 7), active(9, 3, 0), impl.Entry{}), active(9, 3, 0), active(5, -1, 7), active(9, 3, 0), impl.Entry{})
}

func TestEqualBundles(t *testing.T) {
	bundles := append(validBundles(), invalidBundles()...)
	for i, a := range bundles {
		checkEqualBundles(t, a, a, true)
		checkEqualBundles(t, a, cloneBundle(a), true)
		for _, b := range bundles[i:min(i+60, len(bundles))] {
			checkEqualBundles(t, a, b, sameBundle(a, b))
		}
	}
}

func TestEqualBundlesOfNilAndEmpty(t *testing.T) {
	checkEqualBundles(t, impl.Bundle{}, impl.Bundle{}, true)
	checkEqualBundles(t, impl.Bundle{}, impl.Bundle{Entries: []impl.Entry{}}, true)
	checkEqualBundles(t, bundleOf(), impl.Bundle{Entries: make([]impl.Entry, 0, 4)}, true)
	checkEqualBundles(t, impl.Bundle{}, bundleOf(impl.Entry{}), false)
}

func TestEqualBundlesThatDiffer(t *testing.T) {
	for _, b := range []impl.Bundle{bundleOfSize(1), bundleOfSize(3), bundleOfSize(20), bundleOfSize(30), bundleOf(make([]impl.Entry, 2)...)} {
		for i, e := range b.Entries {
			for _, n := range []int{1, -1, 1 << 32, impl.Modulus, math.MinInt} {
				checkEqualBundles(t, b, withEntryAt(b, i, entryOf(e.Site+n, e.Handle, e.Version, e.Deleted)), false)
				checkEqualBundles(t, b, withEntryAt(b, i, entryOf(e.Site, e.Handle+n, e.Version, e.Deleted)), false)
				checkEqualBundles(t, b, withEntryAt(b, i, entryOf(e.Site, e.Handle, e.Version+n, e.Deleted)), false)
			}
			checkEqualBundles(t, b, withEntryAt(b, i, entryOf(e.Site, e.Handle, e.Version, !e.Deleted)), false)
			checkEqualBundles(t, b, withoutEntry(b, i), false)
			checkEqualBundles(t, b, bundleOf(b.Entries[:i]...), false)
			checkEqualBundles(t, b, withEntries(b, i, e), false)
		}
		checkEqualBundles(t, b, withEntries(b, len(b.Entries), impl.Entry{}), false)
	}
	one, other := active(5, 3, 1), active(3, 5, 1)
	checkEqualBundles(t, bundleOf(one, other), bundleOf(other, one), false)
	checkEqualBundles(t, bundleOf(one), bundleOf(other), false)
}

// Promise 17: devices that change their bundles independently agree at last, in whichever order they are merged, and no entry ever goes back.
func TestBundlesOverALongTime(t *testing.T) {
	changes := map[bool]int{}
	for start := 1; start <= 30; start++ {
		draw := start
		below := func(n int) int {
			draw = (draw*48271 + 11) % impl.Modulus
			return draw / 7 % n
		}
		devices := make([]impl.Bundle, 4)
		for range 200 {
			one := below(4)
			site, handle := below(6), below(3)
			next, ok := devices[one], false
			switch below(4) {
			case 0:
				changes[checkPutAsExpected(t, next, site, handle)]++
				next, ok = impl.PutEntry(next, site, handle)
			case 1, 2:
				changes[checkDeletedAsExpected(t, next, site, handle)]++
				next, ok = impl.DeleteEntry(next, site, handle)
			default:
				other := devices[below(4)]
				checkMergedAsExpected(t, next, other)
				next, ok = impl.MergeBundles(next, other)
			}
			if ok {
				checkIncluded(t, next, devices[one], true)
			}
			devices[one] = next
			checkBundle(t, next, true)
		}
		checkAgreement(t, devices)
	}
	if changes[true] < 1000 || changes[false] < 1000 {
		t.Errorf("the changes are %v", changes)
	}
}

func checkAgreement(t *testing.T, devices []impl.Bundle) {
	t.Helper()
	union, _ := mergeInARow(devices...)
	for _, order := range arrangements(devices, len(devices)) {
		if merged, ok := mergeInARow(append(order, order...)...); !ok || !impl.EqualBundles(merged, union) {
			t.Errorf("merging %+v gives %+v, %v, want %+v", order, merged, ok, union)
		}
	}
	for _, b := range devices {
		checkIncluded(t, union, b, true)
	}
}

// A device that was away brings no deleted entry back, unless it was put again there.
func TestDeletedEntriesStayDeleted(t *testing.T) {
	away := checkPut(t, bundleOfSize(3), 6, 3, withEntries(bundleOfSize(3), 3, active(6, 3, 1)).Entries...)
	b, _ := impl.DeleteEntry(away, 6, 3)
	for range 3 {
		merged := checkMerged(t, b, away, b.Entries...)
		checkEntryAt(t, merged, 6, 3, 3)
		checkActive(t, merged, expectedActive(bundleOfSize(3))...)
		b = merged
	}
	put := checkPut(t, b, 6, 3, withEntryAt(b, 3, active(6, 3, 3)).Entries...)
	checkMerged(t, put, b, put.Entries...)
	checkMerged(t, put, away, put.Entries...)
	again, _ := impl.DeleteEntry(put, 6, 3)
	checkMerged(t, again, put, again.Entries...)
}

// bundleChanges are calls that return a bundle, with arguments of every kind.
func bundleChanges() map[string]func(impl.Bundle) impl.Bundle {
	changes := map[string]func(impl.Bundle) impl.Bundle{}
	for _, site := range []int{-1, 0, 5, 6, 15, lastSite} {
		for _, handle := range []int{0, 4, 24, maxCounter + 1} {
			name := impl.FormatInt(site) + " with " + impl.FormatInt(handle)
			changes["PutEntry of "+name] = func(b impl.Bundle) impl.Bundle {
				got, _ := impl.PutEntry(b, site, handle)
				return got
			}
			changes["DeleteEntry of "+name] = func(b impl.Bundle) impl.Bundle {
				got, _ := impl.DeleteEntry(b, site, handle)
				return got
			}
		}
	}
	for name, other := range map[string]impl.Bundle{"nothing": {}, "the same": bundleOfSize(3), "one new": bundleOf(active(6, 3, 1)), "one newer": bundleOf(deleted(5, 4, 9)), "a full one": bundleOfSites(0, 20), "an invalid one": bundleOf(impl.Entry{})} {
		changes["MergeBundles with "+name] = func(b impl.Bundle) impl.Bundle {
			got, _ := impl.MergeBundles(b, other)
			return got
		}
		changes["MergeBundles into "+name] = func(b impl.Bundle) impl.Bundle {
			got, _ := impl.MergeBundles(other, b)
			return got
		}
	}
	changes["MergeBundles with itself"] = func(b impl.Bundle) impl.Bundle {
		got, _ := impl.MergeBundles(b, b)
		return got
	}
	changes["ActiveEntries"] = func(b impl.Bundle) impl.Bundle {
		return bundleOf(impl.ActiveEntries(b)...)
	}
	return changes
}

// changedBundles are few bundles, but each of another shape.
func changedBundles() []impl.Bundle {
	list := []impl.Bundle{{}, bundleOf(), bundleOf(deleted(5, 4, 1)), bundleOf(impl.Entry{}), bundleOf(active(5, 4, maxVersion), deleted(5, 24, maxVersion)), bundleOf(active(6, 3, 1), active(5, 4, 1)), bundleOfSites(0, 20), bundleOfHandles(0, 20)}
	for size := range maxEntries + 3 {
		list = append(list, bundleOfSize(size))
	}
	return list
}

// The results have memory of their own, also where they are copies.
func TestBundlesAreApart(t *testing.T) {
	for name, change := range bundleChanges() {
		for _, b := range changedBundles() {
			entries, array := withSpare(deleted(66, 66, 66), b.Entries...)
			before := slices.Clone(array)
			got := change(bundleOf(entries...))
			if again := change(cloneBundle(b)); !sameBundle(got, again) {
				t.Errorf("%s gives %+v and %+v", name, got, again)
			}
			checkApart(t, name, got.Entries, active(99, 99, 99), array, before, active(55, 55, 55))
		}
	}
}

// The result of a merge shares memory with neither of the two, also where only one of them has entries.
func TestMergedBundlesAreApart(t *testing.T) {
	for _, a := range changedBundles() {
		for _, b := range changedBundles() {
			for _, merge := range []func(impl.Bundle, impl.Bundle) impl.Bundle{mergedOf, switchedOf} {
				entries, array := withSpare(deleted(66, 66, 66), a.Entries...)
				others, otherArray := withSpare(active(77, 77, 77), b.Entries...)
				before, otherBefore := slices.Clone(array), slices.Clone(otherArray)
				got := merge(bundleOf(entries...), bundleOf(others...))
				want := cloneBundle(got)
				if !slices.Equal(otherArray, otherBefore) {
					t.Errorf("merging changed %+v to %+v", otherBefore, otherArray)
				}
				for i := range otherArray {
					otherArray[i] = active(55, 55, 55)
				}
				if !sameBundle(got, want) {
					t.Errorf("the merged bundle %+v became %+v", want, got)
				}
				checkApart(t, "MergeBundles", got.Entries, active(99, 99, 99), array, before, active(44, 44, 44))
			}
		}
	}
}

func mergedOf(a impl.Bundle, b impl.Bundle) impl.Bundle {
	got, _ := impl.MergeBundles(a, b)
	return got
}

func switchedOf(a impl.Bundle, b impl.Bundle) impl.Bundle {
	return mergedOf(b, a)
}

func TestBundleQuestionsLeaveTheirBundles(t *testing.T) {
	for _, b := range append(validBundles(), invalidBundles()...) {
		entries, array := withSpare(active(5, 4, 9), b.Entries...)
		before := slices.Clone(array)
		given := bundleOf(entries...)
		impl.IsBundle(given)
		impl.FindEntry(given, 5, 4)
		impl.IncludesBundle(given, bundleOfSize(3))
		impl.IncludesBundle(bundleOfSize(3), given)
		impl.IncludesBundle(given, given)
		impl.ActiveEntries(given)
		impl.EqualBundles(given, b)
		if !slices.Equal(array, before) {
			t.Errorf("the entries %+v became %+v", before, array)
		}
	}
}

// A second call with the same bundle would overwrite the first result, if both had written to the spare capacity.
func TestResultsOfOneBundleAreApart(t *testing.T) {
	for size := range maxEntries {
		entries, _ := withSpare(deleted(66, 66, 66), bundleOfSize(size).Entries...)
		b := bundleOf(entries...)
		first, _ := impl.PutEntry(b, 100, 3)
		second, _ := impl.PutEntry(b, 101, 3)
		third, _ := impl.DeleteEntry(first, 100, 3)
		fourth, _ := impl.MergeBundles(b, bundleOf(active(102, 3, 1)))
		fifth, _ := impl.MergeBundles(b, bundleOf(active(103, 3, 1)))
		for i, got := range []impl.Bundle{first, second, third, fourth, fifth} {
			want := []impl.Entry{active(100, 3, 1), active(101, 3, 1), deleted(100, 3, 2), active(102, 3, 1), active(103, 3, 1)}[i]
			if !sameBundle(got, withEntries(bundleOfSize(size), size, want)) {
				t.Errorf("the result %d is %+v", i, got)
			}
		}
		one, other := impl.ActiveEntries(b), impl.ActiveEntries(b)
		for i := range one {
			one[i] = deleted(66, 66, 66)
		}
		if !slices.Equal(other, expectedActive(bundleOfSize(size))) {
			t.Errorf("the active entries became %+v", other)
		}
	}
}

// What is in the spare capacity is no entry.
func TestBundleFunctionsIgnoreSpareCapacity(t *testing.T) {
	for _, filler := range []impl.Entry{{}, active(6, 3, 1), deleted(6, 3, 1), active(-1, -1, -1)} {
		for _, size := range []int{0, 1, 3, 19} {
			entries, _ := withSpare(filler, bundleOfSize(size).Entries...)
			b, same := bundleOf(entries...), bundleOfSize(size)
			checkBundle(t, b, true)
			checkEntryAt(t, b, filler.Site, filler.Handle, -1)
			checkPutAsExpected(t, b, 6, 3)
			checkNotDeleted(t, b, filler.Site, filler.Handle)
			checkMerged(t, b, same, same.Entries...)
			checkMerged(t, b, impl.Bundle{}, same.Entries...)
			checkIncluded(t, b, bundleOf(filler), false)
			checkActive(t, b, expectedActive(same)...)
			checkEqualBundles(t, b, same, true)
		}
	}
}

// Between the calls with the same bundle there are others, of which nothing may be left.
func TestBundleFunctionsKeepNoState(t *testing.T) {
	changes := bundleChanges()
	for range 3 {
		b := bundleOf(active(5, 3, 1), deleted(9, 3, 2))
		checkBundle(t, b, true)
		checkEntryAt(t, b, 9, 3, 1)
		checkPut(t, b, 9, 3, active(5, 3, 1), active(9, 3, 3))
		checkPut(t, b, 6, 3, active(5, 3, 1), active(6, 3, 1), deleted(9, 3, 2))
		checkDeleted(t, b, 5, 3, deleted(5, 3, 2), deleted(9, 3, 2))
		checkMerged(t, b, bundleOf(active(9, 3, 2)), b.Entries...)
		checkIncluded(t, b, bundleOf(active(9, 3, 2)), true)
		checkActive(t, b, active(5, 3, 1))
		checkEqualBundles(t, b, bundleOf(active(5, 3, 1), deleted(9, 3, 2)), true)
		for _, other := range changedBundles() {
			for _, change := range changes {
				change(other)
			}
		}
	}
}

func TestBundleFunctionsReturnForAllArguments(t *testing.T) {
	numbers := append(anyInts(), 2, maxVersion-1, maxVersion, maxVersion+1, lastSite, impl.Modulus)
	for _, n := range numbers {
		for _, m := range numbers {
			for _, b := range []impl.Bundle{{}, bundleOf(active(n, m, 1)), bundleOf(deleted(n, m, 2)), bundleOf(active(5, 3, n), deleted(6, 3, m)), bundleOf(deleted(5, n, m)), bundleOf(active(n, 3, m), deleted(m, 3, n)), bundleOf(deleted(0, n, 1), active(0, m, 1))} {
				checkAnyBundle(t, b, n, m)
				checkAnyBundle(t, b, 5, n)
			}
		}
	}
	reversed := bundleOfSites(0, 100000)
	slices.Reverse(reversed.Entries)
	for _, b := range []impl.Bundle{bundleOfSites(0, 100000), reversed, bundleOf(slices.Repeat([]impl.Entry{active(5, 3, 1)}, 5000)...), bundleOf(make([]impl.Entry, 21)...), bundleOf(slices.Repeat([]impl.Entry{deleted(math.MaxInt, math.MinInt, math.MaxInt)}, 5000)...)} {
		for _, other := range []impl.Bundle{{}, bundleOfSize(20), b, bundleOfSize(21)} {
			if got, ok := impl.MergeBundles(b, other); !sameBundle(got, b) || ok {
				t.Errorf("merging a bundle of %d entries gives %d, %v", len(b.Entries), len(got.Entries), ok)
			}
		}
		for _, c := range [][2]int{{5, 3}, {5, 4}, {math.MaxInt, math.MinInt}, {-1, 0}} {
			put, ok := impl.PutEntry(b, c[0], c[1])
			rest, also := impl.DeleteEntry(b, c[0], c[1])
			if ok || also || !sameBundle(put, b) || !sameBundle(rest, b) || impl.FindEntry(b, c[0], c[1]) != expectedEntry(b, c[0], c[1]) {
				t.Errorf("a bundle of %d entries is changed at %v", len(b.Entries), c)
			}
		}
		if impl.IsBundle(b) || impl.IncludesBundle(b, b) || !slices.Equal(impl.ActiveEntries(b), expectedActive(b)) || !impl.EqualBundles(b, b) {
			t.Errorf("a bundle of %d entries is taken for another one", len(b.Entries))
		}
	}
}

func checkAnyBundle(t *testing.T, b impl.Bundle, site int, handle int) {
	t.Helper()
	checkBundle(t, b, expectedBundle(b))
	for _, c := range [][2]int{{site, handle}, {handle, site}, {site, 3}} {
		checkEntryAt(t, b, c[0], c[1], expectedEntry(b, c[0], c[1]))
		checkPutAsExpected(t, b, c[0], c[1])
		checkDeletedAsExpected(t, b, c[0], c[1])
	}
	for _, other := range []impl.Bundle{{}, b, bundleOf(active(site, handle, 1)), bundleOf(deleted(5, 3, site), deleted(6, 3, handle)), bundleOfSize(20)} {
		checkMergedAsExpected(t, b, other)
		checkEqualBundles(t, b, other, sameBundle(b, other))
	}
	checkActive(t, b, expectedActive(b)...)
}
