package tests

import (
	"math"
	"slices"
	"testing"

	"loop.example/g00581/impl"
)

const maxCredentials = 8

func credentialOf(handle int, public int, counter int, cut bool) impl.Credential {
	return impl.Credential{Handle: handle, Public: public, Counter: counter, Cut: cut}
}

func accountOf(credentials ...impl.Credential) impl.Account {
	return impl.Account{Id: 7, Minimum: impl.MethodCode, Credentials: credentials}
}

func withCredentials(a impl.Account, credentials ...impl.Credential) impl.Account {
	a.Credentials = slices.Clone(credentials)
	return a
}

func withCredentialAt(a impl.Account, place int, changed impl.Credential) impl.Account {
	a = withCredentials(a, a.Credentials...)
	a.Credentials[place] = changed
	return a
}

// accountOfSize has gaps between its handles, its keys are in another order than they are, and every third credential is cut.
func accountOfSize(size int) impl.Account {
	credentials := []impl.Credential{}
	for i := range size {
		credentials = append(credentials, credentialOf(3*i+1, expectedPublic(900-7*i), 10+i*5%7, i%3 == 1))
	}
	return accountOf(credentials...)
}

// registered has the keys of the store with the seed 77 at bank.com, each with the Counter 5.
func registered(handles ...int) impl.Account {
	credentials := []impl.Credential{}
	for _, handle := range handles {
		credentials = append(credentials, credentialOf(handle, expectedPublic(expectedSitePrivate(77, "bank.com", handle)), 5, false))
	}
	return accountOf(credentials...)
}

// answerOf is what the store with the seed 77 gives bank.com for the challenge 99.
func answerOf(handle int, counter int) impl.Assertion {
	a := bankAssertion()
	a.Handle, a.Counter = handle, counter
	return signedBy(expectedSitePrivate(77, "bank.com", handle), a)
}

func cutAt(a impl.Account, places ...int) impl.Account {
	for _, place := range places {
		c := a.Credentials[place]
		c.Cut = true
		a = withCredentialAt(a, place, c)
	}
	return a
}

func validAccounts() []impl.Account {
	list := []impl.Account{{Minimum: 1}, {Minimum: 3, Credentials: []impl.Credential{}}}
	for _, id := range []int{0, 1, 7, maxTime - 1, maxTime} {
		for method := 1; method <= 3; method++ {
			list = append(list, impl.Account{Id: id, Minimum: method}, impl.Account{Id: id, Minimum: method, Credentials: accountOfSize(2).Credentials})
		}
	}
	for size := range maxCredentials + 1 {
		list = append(list, accountOfSize(size), registered([]int{0, 1, 2, 3, 4, 5, 6, 7}[:size]...))
	}
	for _, n := range []int{0, 1, maxCounter - 1, maxCounter} {
		list = append(list, accountOf(credentialOf(n, 1, 0, false)), accountOf(credentialOf(3, 1, n, true)), accountOf(credentialOf(3, lastKey, n, false)))
	}
	for _, pair := range keyPairs() {
		list = append(list, accountOf(credentialOf(3, pair[1], 5, false)), accountOf(credentialOf(3, bankPublic, 5, true), credentialOf(4, pair[1], 5, false)))
	}
	return append(list, cutAt(accountOfSize(3), 0, 1, 2), accountOf(credentialOf(0, 2, 0, true), credentialOf(maxCounter, 1, maxCounter, false)))
}

// invalidAccounts break one rule each, the rules about a credential at every place.
func invalidAccounts() []impl.Account {
	list := []impl.Account{{}, {Id: 7}}
	for _, a := range []impl.Account{accountOfSize(0), accountOfSize(1), accountOfSize(3), registered(0, 1, 2, 3, 4, 5, 6, 7)} {
		for _, id := range beyondRange(maxTime) {
			list = append(list, impl.Account{Id: id, Minimum: 2, Credentials: a.Credentials})
		}
		for _, method := range append(beyondRange(3), 0) {
			list = append(list, impl.Account{Id: 7, Minimum: method, Credentials: a.Credentials})
		}
		for i, c := range a.Credentials {
			for _, n := range beyondRange(maxCounter) {
				list = append(list, withCredentialAt(a, i, credentialOf(n, c.Public, c.Counter, c.Cut)), withCredentialAt(a, i, credentialOf(c.Handle, c.Public, n, c.Cut)))
			}
			for _, n := range notKeys() {
				list = append(list, withCredentialAt(a, i, credentialOf(c.Handle, n, c.Counter, c.Cut)))
			}
		}
		list = append(list, accountsOfWrongLists(a)...)
	}
	for _, size := range []int{maxCredentials + 1, maxCredentials + 2, 2 * maxCredentials, 100} {
		list = append(list, accountOfSize(size))
	}
	return list
}

// accountsOfWrongLists have one handle or one key twice, or two credentials in the wrong order.
func accountsOfWrongLists(a impl.Account) []impl.Account {
	list := []impl.Account{}
	for j, second := range a.Credentials {
		for i, first := range a.Credentials[:j] {
			list = append(list, withCredentialAt(a, i, credentialOf(first.Handle, second.Public, first.Counter, first.Cut)))
			list = append(list, withCredentialAt(a, j, credentialOf(second.Handle, first.Public, second.Counter, true)))
			list = append(list, withCredentialAt(a, i, credentialOf(second.Handle, first.Public, first.Counter, first.Cut)))
			list = append(list, withCredentialAt(a, j, credentialOf(first.Handle, second.Public, second.Counter, true)))
			list = append(list, withCredentialAt(withCredentialAt(a, i, second), j, first))
		}
	}
	return list
}

func expectedValidAccount(a impl.Account) bool {
	for i, c := range a.Credentials {
		if c.Handle < 0 || c.Handle > 1000000 || c.Counter < 0 || c.Counter > 1000000 || c.Public < 1 || c.Public > 2147483646 {
			return false
		}
		for _, earlier := range a.Credentials[:i] {
			if earlier.Handle >= c.Handle || earlier.Public == c.Public {
				return false
			}
		}
	}
	return a.Id >= 0 && a.Id <= 1000000 && a.Minimum >= 1 && a.Minimum <= 3 && len(a.Credentials) <= 8
}

func expectedCredential(a impl.Account, handle int) int {
	for i, c := range a.Credentials {
		if c.Handle == handle {
			return i
		}
	}
	return -1
}

func expectedUsed(a impl.Account, x impl.Assertion, site string, challenge int) int {
	place := expectedCredential(a, x.Handle)
	if !expectedValidAccount(a) || place < 0 || a.Credentials[place].Cut {
		return 5
	}
	return expectedCode(a.Credentials[place].Public, x, site, challenge, a.Credentials[place].Counter)
}

func expectedAllowed(a impl.Account, method int) bool {
	if !expectedValidAccount(a) || method < a.Minimum || method > 3 {
		return false
	}
	usable := 0
	for _, c := range a.Credentials {
		if !c.Cut {
			usable++
		}
	}
	return method < 3 || usable > 0
}

func sameAccount(a impl.Account, b impl.Account) bool {
	return a.Id == b.Id && a.Minimum == b.Minimum && slices.Equal(a.Credentials, b.Credentials)
}

func checkValidAccount(t *testing.T, a impl.Account, want bool) {
	t.Helper()
	if got := impl.IsValidAccount(a); got != want {
		t.Errorf("IsValidAccount(%+v) = %v", a, got)
	}
}

func checkAdded(t *testing.T, a impl.Account, handle int, public int) impl.Account {
	t.Helper()
	place := 0
	for place < len(a.Credentials) && a.Credentials[place].Handle < handle {
		place++
	}
	want := withCredentials(a, slices.Concat(a.Credentials[:place], []impl.Credential{credentialOf(handle, public, 0, false)}, a.Credentials[place:])...)
	got, ok := impl.AddCredential(a, handle, public)
	if !sameAccount(got, want) || !ok {
		t.Errorf("AddCredential(%+v, %d, %d) = %+v, %v, want %+v, true", a, handle, public, got, ok, want)
	}
	return got
}

func checkNotAdded(t *testing.T, a impl.Account, handle int, public int) {
	t.Helper()
	if got, ok := impl.AddCredential(a, handle, public); !sameAccount(got, a) || ok {
		t.Errorf("AddCredential(%+v, %d, %d) = %+v, %v", a, handle, public, got, ok)
	}
}

func checkCut(t *testing.T, a impl.Account, handle int) impl.Account {
	t.Helper()
	want := cutAt(a, expectedCredential(a, handle))
	got, ok := impl.CutCredential(a, handle)
	if !sameAccount(got, want) || !ok {
		t.Errorf("CutCredential(%+v, %d) = %+v, %v, want %+v, true", a, handle, got, ok, want)
	}
	return got
}

func checkNotCut(t *testing.T, a impl.Account, handle int) {
	t.Helper()
	if got, ok := impl.CutCredential(a, handle); !sameAccount(got, a) || ok {
		t.Errorf("CutCredential(%+v, %d) = %+v, %v", a, handle, got, ok)
	}
}

func checkCredentialAt(t *testing.T, a impl.Account, handle int, want int) {
	t.Helper()
	if got := impl.FindCredential(a, handle); got != want {
		t.Errorf("FindCredential(%+v, %d) = %d, want %d", a, handle, got, want)
	}
}

// checkUsed expects the new counter with the code AssertOK, the cut with AssertCounter, and no change with the other codes.
func checkUsed(t *testing.T, a impl.Account, x impl.Assertion, site string, challenge int, code int) impl.Account {
	t.Helper()
	want := a
	place := expectedCredential(a, x.Handle)
	switch code {
	case 0:
		c := a.Credentials[place]
		want = withCredentialAt(a, place, credentialOf(c.Handle, c.Public, x.Counter, false))
	case 4:
		want = cutAt(a, place)
	}
	got, gotCode := impl.UseCredential(a, x, site, challenge)
	if !sameAccount(got, want) || gotCode != code {
		t.Errorf("UseCredential(%+v, %+v, %q, %d) = %+v, %d, want %+v, %d", a, x, site, challenge, got, gotCode, want, code)
	}
	return got
}

// checkUsedAtBank uses the assertion as bank.com does, with its challenge 99.
func checkUsedAtBank(t *testing.T, a impl.Account, x impl.Assertion, code int) impl.Account {
	t.Helper()
	return checkUsed(t, a, x, "bank.com", 99, code)
}

func checkRaised(t *testing.T, a impl.Account, method int) impl.Account {
	t.Helper()
	want := impl.Account{Id: a.Id, Minimum: method, Credentials: a.Credentials}
	got, ok := impl.RaiseMinimum(a, method)
	if !sameAccount(got, want) || !ok {
		t.Errorf("RaiseMinimum(%+v, %d) = %+v, %v, want %+v, true", a, method, got, ok, want)
	}
	return got
}

func checkNotRaised(t *testing.T, a impl.Account, method int) {
	t.Helper()
	if got, ok := impl.RaiseMinimum(a, method); !sameAccount(got, a) || ok {
		t.Errorf("RaiseMinimum(%+v, %d) = %+v, %v", a, method, got, ok)
	}
}

func checkAllowed(t *testing.T, a impl.Account, method int, want bool) {
	t.Helper()
	if got := impl.AllowsMethod(a, method); got != want {
		t.Errorf("AllowsMethod(%+v, %d) = %v", a, method, got)
	}
}

func checkEqualAccounts(t *testing.T, a impl.Account, b impl.Account, want bool) {
	t.Helper()
	if got := impl.EqualAccounts(a, b); got != want {
		t.Errorf("EqualAccounts(%+v, %+v) = %v", a, b, got)
	}
	if got := impl.EqualAccounts(b, a); got != want {
		t.Errorf("EqualAccounts(%+v, %+v) = %v", b, a, got)
	}
}

func TestAccountConstants(t *testing.T) {
	if methods := [...]int{impl.MethodPassword, impl.MethodCode, impl.MethodKey}; impl.MaxCredentials != 8 || methods != [...]int{1, 2, 3} {
		t.Errorf("MaxCredentials is %d and the methods are %v", impl.MaxCredentials, methods)
	}
}

func TestIsValidAccount(t *testing.T) {
	for _, a := range validAccounts() {
		checkValidAccount(t, a, true)
	}
	for _, a := range invalidAccounts() {
		checkValidAccount(t, a, false)
	}
}

func TestIsValidAccountAtTheEndsOfTheRanges(t *testing.T) {
	for n, want := range map[int]bool{-2: false, -1: false, 0: true, 1: true, 999999: true, 1000000: true, 1000001: false, 1000002: false} {
		checkValidAccount(t, impl.Account{Id: n, Minimum: 1}, want)
		checkValidAccount(t, impl.Account{Id: n, Minimum: 3, Credentials: accountOfSize(3).Credentials}, want)
		for _, cut := range []bool{false, true} {
			checkValidAccount(t, accountOf(credentialOf(n, bankPublic, 5, cut)), want)
			checkValidAccount(t, accountOf(credentialOf(3, bankPublic, n, cut)), want)
		}
	}
	for n, want := range map[int]bool{-1: false, 0: false, 1: true, 2: true, 3: true, 4: false, 5: false} {
		checkValidAccount(t, impl.Account{Minimum: n}, want)
		checkValidAccount(t, impl.Account{Id: 7, Minimum: n, Credentials: accountOfSize(maxCredentials).Credentials}, want)
	}
	for n, want := range map[int]bool{-1: false, 0: false, 1: true, 2: true, 2147483645: true, 2147483646: true, 2147483647: false, 2147483648: false} {
		checkValidAccount(t, accountOf(credentialOf(3, n, 5, false)), want)
		checkValidAccount(t, accountOf(credentialOf(3, n, 5, true)), want)
	}
}

func TestIsValidAccountOfEverySize(t *testing.T) {
	for size := range 40 {
		checkValidAccount(t, accountOfSize(size), size <= 8)
	}
}

func TestIsValidAccountOfEveryOrder(t *testing.T) {
	for size := range 5 {
		for _, handles := range arrangements([]int{0, 1, 4, 8}, size) {
			ordered, unordered := []impl.Credential{}, []impl.Credential{}
			for i, handle := range handles {
				ordered = append(ordered, credentialOf(i, handle+1, handle, false))
				unordered = append(unordered, credentialOf(handle, i+1, i, false))
			}
			checkValidAccount(t, accountOf(ordered...), true)
			checkValidAccount(t, accountOf(unordered...), slices.IsSorted(handles))
		}
	}
}

// The handles must ascend, and the keys must only differ; counters and cuts may be equal.
func TestIsValidAccountOfEveryTriple(t *testing.T) {
	for choice := range 3 * 3 * 3 * 3 * 3 * 3 {
		credentials := []impl.Credential{}
		for range 3 {
			credentials = append(credentials, credentialOf(choice%3, choice/3%3+1, 5, choice%2 == 0))
			choice /= 9
		}
		checkValidAccount(t, accountOf(credentials...), expectedValidAccount(accountOf(credentials...)))
	}
}

func TestIsValidAccountFollowsItsDefinition(t *testing.T) {
	numbers := append(anyInts(), 2, 3, maxCounter-1, maxCounter, maxCounter+1, lastKey, impl.Modulus)
	for _, n := range numbers {
		for _, m := range numbers {
			for _, cut := range []bool{false, true} {
				for _, c := range []impl.Credential{credentialOf(n, m, 5, cut), credentialOf(n, 9, m, cut), credentialOf(3, n, m, cut)} {
					for _, a := range []impl.Account{accountOf(c), {Id: n, Minimum: m, Credentials: []impl.Credential{c}}, accountOf(c, credentialOf(5, 1, 5, cut)), accountOf(credentialOf(0, 4, 5, cut), c)} {
						checkValidAccount(t, a, expectedValidAccount(a))
					}
				}
			}
		}
	}
}

func TestAddCredential(t *testing.T) {
	three, five, nine := credentialOf(3, 30, 5, false), credentialOf(5, 10, 6, true), credentialOf(9, 20, 7, false)
	for _, c := range []struct {
		before []impl.Credential
		handle int
		after  []impl.Credential
	}{
		{nil, 4, []impl.Credential{credentialOf(4, 77, 0, false)}},
		{[]impl.Credential{three, five, nine}, 2, []impl.Credential{credentialOf(2, 77, 0, false), three, five, nine}},
		{[]impl.Credential{three, five, nine}, 4, []impl.Credential{three, credentialOf(4, 77, 0, false), five, nine}},
		{[]impl.Credential{three, five, nine}, 6, []impl.Credential{three, five, credentialOf(6, 77, 0, false), nine}},
		{[]impl.Credential{three, five, nine}, 10, []impl.Credential{three, five, nine, credentialOf(10, 77, 0, false)}},
	} {
		got, ok := impl.AddCredential(impl.Account{Id: 7, Minimum: 3, Credentials: c.before}, c.handle, 77)
		if !sameAccount(got, impl.Account{Id: 7, Minimum: 3, Credentials: c.after}) || !ok {
			t.Errorf("adding %d to %+v gives %+v, %v", c.handle, c.before, got, ok)
		}
	}
}

func TestAddCredentialFollowsItsDefinition(t *testing.T) {
	for _, a := range validAccounts() {
		for _, handle := range []int{0, 1, 2, 3, 4, 11, 12, 24, maxCounter - 1, maxCounter} {
			for _, public := range []int{1, 77, bankPublic, expectedPublic(900), lastKey} {
				want := withCredentials(a, append(slices.Clone(a.Credentials), credentialOf(handle, public, 0, false))...)
				slices.SortStableFunc(want.Credentials, func(c impl.Credential, d impl.Credential) int { return c.Handle - d.Handle })
				if expectedValidAccount(want) {
					checkValidAccount(t, checkAdded(t, a, handle, public), true)
				} else {
					checkNotAdded(t, a, handle, public)
				}
			}
		}
	}
}

func TestAddCredentialAtEveryPlace(t *testing.T) {
	for size := range maxCredentials {
		for place := range size + 1 {
			got := checkAdded(t, accountOfSize(size), 3*place, 77)
			if got.Credentials[place] != credentialOf(3*place, 77, 0, false) {
				t.Errorf("the credential %d is not at %d of %+v", 3*place, place, got)
			}
		}
	}
}

func TestAddCredentialsInEveryOrder(t *testing.T) {
	want := accountOf(credentialOf(0, 12, 0, false), credentialOf(2, 10, 0, false), credentialOf(5, 15, 0, false), credentialOf(9, 19, 0, false), credentialOf(maxCounter, 1, 0, false))
	for _, order := range arrangements(want.Credentials, len(want.Credentials)) {
		a := accountOf()
		for _, c := range order {
			a = checkAdded(t, a, c.Handle, c.Public)
		}
		if !sameAccount(a, want) {
			t.Errorf("adding %+v gives %+v", order, a)
		}
	}
}

// The credential with the handle is neither replaced nor revived, not even with its own key.
func TestAddCredentialOfAHandleThatExists(t *testing.T) {
	for size := 1; size <= maxCredentials; size++ {
		for i, c := range accountOfSize(size).Credentials {
			for _, a := range []impl.Account{accountOfSize(size), cutAt(accountOfSize(size), i)} {
				for _, public := range []int{77, 1, lastKey, c.Public, 0} {
					checkNotAdded(t, a, c.Handle, public)
				}
			}
		}
	}
}

func TestAddCredentialOfAKeyThatExists(t *testing.T) {
	for size := 1; size <= maxCredentials; size++ {
		for i, c := range accountOfSize(size).Credentials {
			for _, a := range []impl.Account{accountOfSize(size), cutAt(accountOfSize(size), i)} {
				for _, handle := range []int{0, c.Handle - 1, c.Handle, c.Handle + 1, 30, maxCounter} {
					checkNotAdded(t, a, handle, c.Public)
				}
			}
		}
	}
}

func TestAddCredentialUpToTheLimit(t *testing.T) {
	full := checkAdded(t, accountOfSize(7), 30, 77)
	if len(full.Credentials) != 8 {
		t.Errorf("the account is %+v", full)
	}
	a := accountOf()
	for i := range 8 {
		a = checkAdded(t, a, 50-i, 100+i)
	}
	for _, full := range []impl.Account{full, a, accountOfSize(8), cutAt(accountOfSize(8), 0, 1, 2, 3, 4, 5, 6, 7), registered(0, 1, 2, 3, 4, 5, 6, 7)} {
		for _, handle := range []int{0, 8, 23, 60, maxCounter, full.Credentials[0].Handle} {
			checkNotAdded(t, full, handle, 5)
			checkNotAdded(t, checkCut(t, accountOfSize(8), 1), handle, 5)
		}
	}
}

func TestAddCredentialAtTheEndsOfTheRanges(t *testing.T) {
	for _, a := range []impl.Account{{Minimum: 1}, accountOfSize(3), accountOfSize(7), {Id: maxTime, Minimum: 3}} {
		for _, handle := range []int{0, 999999, 1000000} {
			checkAdded(t, a, handle, 77)
		}
		for _, handle := range append(beyondRange(maxCounter), -3, impl.Modulus) {
			checkNotAdded(t, a, handle, 77)
		}
		for _, public := range []int{1, 2, 48271, 2147483645, 2147483646} {
			checkAdded(t, a, 8, public)
		}
		for _, public := range append(notKeys(), 2147483647, 2147483648) {
			checkNotAdded(t, a, 8, public)
		}
	}
}

func TestAddCredentialToAnInvalidAccount(t *testing.T) {
	for _, a := range invalidAccounts() {
		for _, handle := range []int{0, 2, 4, 12, maxCounter, -1} {
			checkNotAdded(t, a, handle, 77)
			checkNotAdded(t, a, handle, 0)
		}
	}
}

func TestCutCredential(t *testing.T) {
	three, five, nine := credentialOf(3, 30, 5, false), credentialOf(5, 10, 6, false), credentialOf(9, 20, 7, false)
	for handle, want := range map[int][]impl.Credential{
		3: {credentialOf(3, 30, 5, true), five, nine},
		5: {three, credentialOf(5, 10, 6, true), nine},
		9: {three, five, credentialOf(9, 20, 7, true)},
	} {
		got, ok := impl.CutCredential(accountOf(three, five, nine), handle)
		if !sameAccount(got, accountOf(want...)) || !ok {
			t.Errorf("cutting %d gives %+v, %v", handle, got, ok)
		}
	}
}

func TestCutCredentialFollowsItsDefinition(t *testing.T) {
	for _, a := range validAccounts() {
		for _, handle := range []int{-1, 0, 1, 2, 3, 4, 5, 6, 7, 10, 13, 16, 19, 22, 25, maxCounter - 1, maxCounter, maxCounter + 1, math.MinInt, math.MaxInt} {
			place := expectedCredential(a, handle)
			if place < 0 || a.Credentials[place].Cut {
				checkNotCut(t, a, handle)
				continue
			}
			got := checkCut(t, a, handle)
			checkValidAccount(t, got, true)
			checkNotCut(t, got, handle)
		}
	}
}

func TestCutCredentialsInEveryOrder(t *testing.T) {
	for _, order := range arrangements([]int{0, 3, 5, 9}, 4) {
		a := registered(0, 3, 5, 9)
		for i, handle := range order {
			a = checkCut(t, a, handle)
			for _, cut := range order[:i+1] {
				checkNotCut(t, a, cut)
			}
		}
		if !sameAccount(a, cutAt(registered(0, 3, 5, 9), 0, 1, 2, 3)) {
			t.Errorf("cutting %v gives %+v", order, a)
		}
	}
}

func TestCutCredentialOfAnInvalidAccount(t *testing.T) {
	for _, a := range invalidAccounts() {
		for _, c := range a.Credentials {
			checkNotCut(t, a, c.Handle)
		}
		checkNotCut(t, a, 2)
	}
}

func TestFindCredential(t *testing.T) {
	for _, a := range validAccounts() {
		for i, c := range a.Credentials {
			checkCredentialAt(t, a, c.Handle, i)
		}
		for _, handle := range []int{-1, 0, 1, 2, 3, 4, 23, maxCounter, maxCounter + 1, 1 << 32, math.MinInt, math.MaxInt} {
			checkCredentialAt(t, a, handle, expectedCredential(a, handle))
		}
	}
	a := accountOf(credentialOf(2, 5, 8, false), credentialOf(6, 1, 3, true))
	for handle := -3; handle < 12; handle++ {
		checkCredentialAt(t, a, handle, map[int]int{2: 1, 6: 2}[handle]-1)
	}
}

func TestFindCredentialOfAnInvalidAccount(t *testing.T) {
	for _, a := range invalidAccounts() {
		for _, c := range a.Credentials {
			checkCredentialAt(t, a, c.Handle, expectedCredential(a, c.Handle))
		}
		checkCredentialAt(t, a, 2, expectedCredential(a, 2))
	}
	several := impl.Account{Credentials: []impl.Credential{{Handle: 9}, {Handle: 4, Cut: true}, {Handle: -1}, {Handle: 4}, {Handle: 9}, {Handle: 4}}}
	for handle, want := range map[int]int{9: 0, 4: 1, -1: 2, 0: -1, 5: -1} {
		checkCredentialAt(t, several, handle, want)
	}
	checkCredentialAt(t, accountOfSize(300), 3*299+1, 299)
}

func TestUseCredential(t *testing.T) {
	one, three, nine := credentialOf(1, 77, 50, false), credentialOf(3, bankPublic, 5, false), credentialOf(9, 78, 50, true)
	a, code := impl.UseCredential(accountOf(one, three, nine), bankAssertion(), "bank.com", 99)
	if !sameAccount(a, accountOf(one, credentialOf(3, bankPublic, 6, false), nine)) || code != 0 {
		t.Errorf("the first use gives %+v, %d", a, code)
	}
	a, code = impl.UseCredential(a, bankAssertion(), "bank.com", 99)
	if !sameAccount(a, accountOf(one, credentialOf(3, bankPublic, 6, true), nine)) || code != 4 {
		t.Errorf("the second use gives %+v, %d", a, code)
	}
	a, code = impl.UseCredential(a, bankAssertion(), "bank.com", 99)
	if !sameAccount(a, accountOf(one, credentialOf(3, bankPublic, 6, true), nine)) || code != 5 {
		t.Errorf("the third use gives %+v, %d", a, code)
	}
}

func TestUseEachCredential(t *testing.T) {
	handles := []int{0, 1, 3, 77, 1000, maxCounter - 2, maxCounter - 1, maxCounter}
	for size := 1; size <= maxCredentials; size++ {
		a := registered(handles[:size]...)
		for _, handle := range handles[:size] {
			for _, text := range siteOrigins() {
				s, x, ok := impl.MakeAssertion(storeOf(77, 5), originOf(t, text), "bank.com", handle, 99, true)
				used := checkUsedAtBank(t, a, x, impl.AssertOK)
				place := expectedCredential(a, handle)
				if used.Credentials[place].Counter != 6 || s.Counter != 6 || !ok {
					t.Errorf("after %+v the account is %+v", x, used)
				}
				cut := checkUsedAtBank(t, used, x, impl.AssertCounter)
				checkUsedAtBank(t, cut, x, impl.AssertSignature)
			}
		}
		for _, handle := range handles[size:] {
			checkUsedAtBank(t, a, answerOf(handle, 6), impl.AssertSignature)
		}
	}
}

// The counter of a device goes on with the answers for all its keys, and that of a credential with its own ones.
func TestUseCredentialsInARow(t *testing.T) {
	a, s := registered(0, 3, 5), storeOf(77, 5)
	for challenge := range 60 {
		handle := []int{0, 3, 5, 3}[challenge%4]
		var x impl.Assertion
		s, x, _ = impl.MakeAssertion(s, secureAt("bank.com"), "bank.com", handle, challenge, true)
		a = checkUsed(t, a, x, "bank.com", challenge, impl.AssertOK)
		checkUsed(t, a, x, "bank.com", challenge, impl.AssertCounter)
		checkUsed(t, a, x, "bank.com", challenge+1, impl.AssertChallenge)
		if counter := a.Credentials[expectedCredential(a, handle)].Counter; counter != challenge+6 || counter != s.Counter {
			t.Errorf("after %d answers the account is %+v and the store %+v", challenge+1, a, s)
		}
	}
}

// Whoever of the device and its clone answers second is noticed, and the key is of no use to either.
func TestUseCredentialOfAClone(t *testing.T) {
	a, s := registered(1, 3), storeOf(77, 5)
	clone := impl.CloneStore(s)
	s, first, _ := impl.MakeAssertion(s, secureAt("bank.com"), "bank.com", 3, 99, true)
	_, second, _ := impl.MakeAssertion(clone, secureAt("www.bank.com"), "bank.com", 3, 98, true)
	a = checkUsed(t, a, first, "bank.com", 99, impl.AssertOK)
	a = checkUsed(t, a, second, "bank.com", 98, impl.AssertCounter)
	_, third, _ := impl.MakeAssertion(s, secureAt("bank.com"), "bank.com", 3, 97, true)
	a = checkUsed(t, a, third, "bank.com", 97, impl.AssertSignature)
	_, other, _ := impl.MakeAssertion(s, secureAt("bank.com"), "bank.com", 1, 96, true)
	checkUsed(t, a, other, "bank.com", 96, impl.AssertOK)
}

func TestUseCredentialWithAnyCounter(t *testing.T) {
	for _, last := range []int{0, 1, 5, maxCounter - 1, maxCounter} {
		a := accountOf(credentialOf(1, 77, 5, false), credentialOf(3, bankPublic, last, false))
		for _, counter := range []int{math.MinInt, -maxCounter, -1, 0, 1, 4, 5, 6, maxCounter - 1, maxCounter, maxCounter + 1, impl.Modulus, 1 << 40, math.MaxInt} {
			code := impl.AssertOK
			if counter <= last {
				code = impl.AssertCounter
			}
			got := checkUsedAtBank(t, a, answerOf(3, counter), code)
			checkValidAccount(t, got, counter <= maxCounter)
		}
	}
}

// The chapter sets the counter whatever its size is; the account is not valid then, and so opens no more.
func TestUseCredentialBeyondMaxCounter(t *testing.T) {
	for _, counter := range []int{1000001, 1000002, impl.Modulus, impl.Modulus + 6, 1 << 40, math.MaxInt} {
		a, code := impl.UseCredential(registered(1, 3), answerOf(3, counter), "bank.com", 99)
		if want := withCredentialAt(registered(1, 3), 1, credentialOf(3, bankPublic, counter, false)); !sameAccount(a, want) || code != 0 {
			t.Errorf("the counter %d gives %+v, %d", counter, a, code)
		}
		checkValidAccount(t, a, false)
		checkUsedAtBank(t, a, answerOf(3, math.MaxInt), impl.AssertSignature)
		checkUsedAtBank(t, a, answerOf(1, 6), impl.AssertSignature)
		checkAllowed(t, a, impl.MethodKey, false)
		checkNotAdded(t, a, 4, 77)
		checkNotCut(t, a, 3)
		checkNotRaised(t, a, impl.MethodKey)
	}
}

// Of a refused assertion, only the one of a clone changes the account.
func TestUseCredentialThatIsRefused(t *testing.T) {
	for _, a := range []impl.Account{registered(3), registered(1, 3, 4), registered(0, 1, 2, 3, 4, 5, 6, 7)} {
		for _, x := range faultyOrigins(bankAssertion()) {
			checkUsedAtBank(t, a, signedBy(bankPrivate(), x), impl.AssertOrigin)
		}
		checkUsed(t, a, bankAssertion(), "shop.org", 99, impl.AssertOrigin)
		checkUsed(t, a, bankAssertion(), "", 99, impl.AssertOrigin)
		absent := bankAssertion()
		absent.Present = false
		checkUsedAtBank(t, a, signedBy(bankPrivate(), absent), impl.AssertPresence)
		for _, challenge := range []int{0, 98, 100, 99 + impl.Modulus, math.MinInt} {
			checkUsed(t, a, bankAssertion(), "bank.com", challenge, impl.AssertChallenge)
		}
		for _, signature := range []int{0, 1, -1, bankAssertion().Signature + 1, bankAssertion().Signature + impl.Modulus} {
			x := bankAssertion()
			x.Signature = signature
			checkUsedAtBank(t, a, x, impl.AssertSignature)
		}
		for _, counter := range []int{-1, 0, 4, 5} {
			checkUsedAtBank(t, a, answerOf(3, counter), impl.AssertCounter)
			unsigned := answerOf(3, counter)
			unsigned.Signature++
			checkUsedAtBank(t, a, unsigned, impl.AssertSignature)
			elsewhere := answerOf(3, counter)
			checkUsed(t, a, elsewhere, "bank.com", 98, impl.AssertChallenge)
		}
	}
}

// Another credential of the account, or another device, cannot answer for this one.
func TestUseCredentialWithAnotherKey(t *testing.T) {
	a := registered(1, 3, 4)
	for _, handle := range []int{1, 3, 4} {
		for _, other := range []int{0, 1, 3, 4, 5, maxCounter} {
			x := answerOf(other, 6)
			x.Handle = handle
			x = signedBy(expectedSitePrivate(77, "bank.com", other), x)
			checkUsedAtBank(t, a, x, map[bool]int{false: impl.AssertSignature, true: impl.AssertOK}[other == handle])
		}
		for _, seed := range []int{1, 76, 78, lastKey} {
			_, x, _ := impl.MakeAssertion(storeOf(seed, 5), secureAt("bank.com"), "bank.com", handle, 99, true)
			checkUsedAtBank(t, a, x, impl.AssertSignature)
		}
	}
}

// The chapter looks at the handle before the assertion, so whatever else is wrong with it is not reported.
func TestUseCredentialThatIsNotThere(t *testing.T) {
	for _, a := range []impl.Account{accountOf(), registered(0, 1, 4), registered(0, 1, 2, 4, 5, 6, 7, 8)} {
		for _, handle := range []int{3, -1, 9, maxCounter, maxCounter + 1, impl.Modulus, impl.Modulus + 1, 1 - impl.Modulus, math.MinInt, math.MaxInt} {
			checkUsedAtBank(t, a, answerOf(handle, 6), impl.AssertSignature)
			checkUsedAtBank(t, a, answerOf(handle, 0), impl.AssertSignature)
			checkUsedAtBank(t, a, impl.Assertion{Handle: handle}, impl.AssertSignature)
			checkUsed(t, a, answerOf(handle, 6), "shop.org", 98, impl.AssertSignature)
		}
	}
}

func TestUseCredentialThatIsCut(t *testing.T) {
	for place, handle := range []int{1, 3, 4} {
		a := cutAt(registered(1, 3, 4), place)
		for _, counter := range []int{-1, 0, 5, 6, 7, maxCounter, maxCounter + 1, math.MaxInt} {
			checkUsedAtBank(t, a, answerOf(handle, counter), impl.AssertSignature)
			checkUsed(t, a, answerOf(handle, counter), "shop.org", 98, impl.AssertSignature)
		}
		checkUsedAtBank(t, a, impl.Assertion{Handle: handle}, impl.AssertSignature)
		for _, other := range []int{1, 3, 4} {
			if other != handle {
				checkUsedAtBank(t, a, answerOf(other, 6), impl.AssertOK)
				checkUsedAtBank(t, a, answerOf(other, 5), impl.AssertCounter)
			}
		}
	}
}

func TestUseCredentialOfAnInvalidAccount(t *testing.T) {
	for _, a := range invalidAccounts() {
		for _, handle := range []int{0, 1, 3, 7, 9} {
			checkUsedAtBank(t, a, answerOf(handle, 20), impl.AssertSignature)
			checkUsedAtBank(t, a, answerOf(handle, 0), impl.AssertSignature)
			checkUsed(t, a, answerOf(handle, 20), "shop.org", 98, impl.AssertSignature)
		}
	}
	for _, a := range []impl.Account{{Id: -1, Minimum: 2}, {Id: maxTime + 1, Minimum: 2}, {Id: 7}, {Id: 7, Minimum: 4}} {
		a.Credentials = registered(3).Credentials
		checkUsedAtBank(t, a, bankAssertion(), impl.AssertSignature)
	}
}

// The Minimum is about what AllowsMethod reports and not about the use of a key.
func TestUseCredentialAtEveryMinimum(t *testing.T) {
	for method := 1; method <= 3; method++ {
		a := impl.Account{Id: 7, Minimum: method, Credentials: registered(3).Credentials}
		checkUsedAtBank(t, checkUsedAtBank(t, a, answerOf(3, 6), impl.AssertOK), answerOf(3, 6), impl.AssertCounter)
	}
}

func TestRaiseMinimum(t *testing.T) {
	for minimum := 1; minimum <= 3; minimum++ {
		for size := range maxCredentials + 1 {
			a := impl.Account{Id: 7, Minimum: minimum, Credentials: accountOfSize(size).Credentials}
			for method := -1; method <= 5; method++ {
				if method >= minimum && method <= 3 {
					checkValidAccount(t, checkRaised(t, a, method), true)
				} else {
					checkNotRaised(t, a, method)
				}
			}
			for _, method := range append(beyondRange(3), anyInts()...) {
				if method < 1 || method > 3 {
					checkNotRaised(t, a, method)
				}
			}
		}
	}
}

func TestRaiseMinimumStepByStep(t *testing.T) {
	a := checkRaised(t, impl.Account{Id: 7, Minimum: 1}, 1)
	a = checkRaised(t, a, 2)
	checkNotRaised(t, a, 1)
	a = checkRaised(t, a, 3)
	checkNotRaised(t, a, 1)
	checkNotRaised(t, a, 2)
	checkRaised(t, a, 3)
}

func TestRaiseMinimumOfAnInvalidAccount(t *testing.T) {
	for _, a := range invalidAccounts() {
		for method := range 5 {
			checkNotRaised(t, a, method)
		}
		checkNotRaised(t, a, a.Minimum)
	}
}

func TestAllowsMethod(t *testing.T) {
	for minimum := 1; minimum <= 3; minimum++ {
		for method := -1; method <= 5; method++ {
			reached := method >= minimum && method <= 3
			checkAllowed(t, impl.Account{Id: 7, Minimum: minimum, Credentials: registered(3).Credentials}, method, reached)
			checkAllowed(t, impl.Account{Id: 7, Minimum: minimum}, method, reached && method != 3)
			checkAllowed(t, impl.Account{Id: 7, Minimum: minimum, Credentials: cutAt(registered(1, 3), 0, 1).Credentials}, method, reached && method != 3)
		}
		for _, method := range beyondRange(3) {
			checkAllowed(t, impl.Account{Id: 7, Minimum: minimum, Credentials: registered(3).Credentials}, method, false)
		}
	}
}

// Of all sets of cut credentials, only the whole one takes the method away.
func TestAllowsKeyOfEverySet(t *testing.T) {
	for size := range maxCredentials + 1 {
		handles := []int{0, 1, 2, 3, 4, 5, 6, 7}[:size]
		for set := range 1 << size {
			a := registered(handles...)
			for i := range a.Credentials {
				a.Credentials[i].Cut = set>>i&1 == 1
			}
			checkAllowed(t, a, impl.MethodKey, set != 1<<size-1)
			checkAllowed(t, a, impl.MethodCode, true)
			checkAllowed(t, a, impl.MethodPassword, false)
		}
	}
}

func TestAllowsMethodOfAnInvalidAccount(t *testing.T) {
	for _, a := range append(invalidAccounts(), impl.Account{Credentials: registered(3).Credentials}) {
		for method := range 5 {
			checkAllowed(t, a, method, false)
		}
		checkAllowed(t, a, a.Minimum, false)
	}
}

func TestEqualAccounts(t *testing.T) {
	accounts := append(validAccounts(), invalidAccounts()...)
	for i, a := range accounts {
		checkEqualAccounts(t, a, a, true)
		checkEqualAccounts(t, a, withCredentials(a, a.Credentials...), true)
		for _, b := range accounts[i:min(i+60, len(accounts))] {
			checkEqualAccounts(t, a, b, sameAccount(a, b))
		}
	}
}

func TestEqualAccountsOfNilAndEmpty(t *testing.T) {
	checkEqualAccounts(t, impl.Account{}, impl.Account{Credentials: []impl.Credential{}}, true)
	checkEqualAccounts(t, accountOf(), impl.Account{Id: 7, Minimum: 2, Credentials: make([]impl.Credential, 0, 4)}, true)
	checkEqualAccounts(t, impl.Account{}, impl.Account{Credentials: []impl.Credential{{}}}, false)
}

func TestEqualAccountsThatDiffer(t *testing.T) {
	for _, a := range []impl.Account{accountOf(), accountOfSize(1), accountOfSize(3), accountOfSize(maxCredentials), {Id: -1, Credentials: []impl.Credential{{Handle: 4}, {Handle: 4}}}} {
		for _, n := range []int{1, -1, 1 << 32, impl.Modulus, math.MinInt} {
			checkEqualAccounts(t, a, impl.Account{Id: a.Id + n, Minimum: a.Minimum, Credentials: a.Credentials}, false)
			checkEqualAccounts(t, a, impl.Account{Id: a.Id, Minimum: a.Minimum + n, Credentials: a.Credentials}, false)
			for i, c := range a.Credentials {
				checkEqualAccounts(t, a, withCredentialAt(a, i, credentialOf(c.Handle+n, c.Public, c.Counter, c.Cut)), false)
				checkEqualAccounts(t, a, withCredentialAt(a, i, credentialOf(c.Handle, c.Public+n, c.Counter, c.Cut)), false)
				checkEqualAccounts(t, a, withCredentialAt(a, i, credentialOf(c.Handle, c.Public, c.Counter+n, c.Cut)), false)
			}
		}
		for i, c := range a.Credentials {
			checkEqualAccounts(t, a, withCredentialAt(a, i, credentialOf(c.Handle, c.Public, c.Counter, !c.Cut)), false)
			checkEqualAccounts(t, a, withCredentials(a, a.Credentials[:i]...), false)
			checkEqualAccounts(t, a, withCredentials(a, slices.Concat(a.Credentials[:i], a.Credentials[i+1:])...), false)
		}
		checkEqualAccounts(t, a, withCredentials(a, append(slices.Clone(a.Credentials), impl.Credential{})...), false)
	}
	one, other := credentialOf(1, 3, 15, false), credentialOf(4, 3, 15, false)
	checkEqualAccounts(t, accountOf(one, other), accountOf(other, one), false)
	checkEqualAccounts(t, impl.Account{Id: 2, Minimum: 3}, impl.Account{Id: 3, Minimum: 2}, false)
}

// Promise 14: no way of the chapter brings a cut credential back.
func TestCutCredentialNeverSignsInAgain(t *testing.T) {
	handles := []int{0, 1, 2, 3, 4, 5, 6, 7}
	for size := 1; size <= maxCredentials; size++ {
		for place, handle := range handles[:size] {
			original := registered(handles[:size]...)
			public := original.Credentials[place].Public
			byPerson := checkCut(t, original, handle)
			byClone := checkUsedAtBank(t, original, answerOf(handle, 5), impl.AssertCounter)
			for _, a := range []impl.Account{byPerson, byClone} {
				a, _ = impl.AddCredential(a, handle, 77)
				a, _ = impl.AddCredential(a, handle, public)
				a, _ = impl.AddCredential(a, 9, public)
				a, _ = impl.AddCredential(a, 9, 77)
				for _, other := range handles {
					a, _ = impl.UseCredential(a, answerOf(other, 6), "bank.com", 99)
				}
				a, _ = impl.RaiseMinimum(a, impl.MethodKey)
				a, _ = impl.CutCredential(a, handle)
				if a.Credentials[place] != credentialOf(handle, public, 5, true) {
					t.Errorf("the credential %d became %+v", handle, a.Credentials[place])
				}
				for _, counter := range []int{5, 6, 7, maxCounter, math.MaxInt} {
					checkUsedAtBank(t, a, answerOf(handle, counter), impl.AssertSignature)
				}
			}
		}
	}
}

// Of a long life of an account, each accepted answer is one of a key that was never cut, with a counter that this key never had.
func TestAccountOverALongTime(t *testing.T) {
	for start := 1; start <= 40; start++ {
		draw := start
		below := func(n int) int {
			draw = (draw*48271 + 11) % impl.Modulus
			return draw / 7 % n
		}
		a := accountOf()
		devices := []impl.KeyStore{storeOf(77, 0), storeOf(78, 0), storeOf(79, 0)}
		cut, seen := map[int]bool{}, map[int]int{}
		accepted := 0
		for step := range 300 {
			handle, device := below(12), below(3)
			public := impl.SitePublic(devices[device], "bank.com", handle)
			switch below(8) {
			case 0:
				if next, ok := impl.AddCredential(a, handle, public); ok {
					a = checkAdded(t, a, handle, public)
					if cut[handle] || len(next.Credentials) > 8 {
						t.Errorf("the handle %d is added again: %+v", handle, next)
					}
				}
			case 1:
				if next, ok := impl.CutCredential(a, handle); ok && step%5 == 0 {
					a = next
					cut[handle] = true
				}
			default:
				s := devices[device]
				next, x, _ := impl.MakeAssertion(s, secureAt("bank.com"), "bank.com", handle, step, true)
				if below(8) > 0 {
					devices[device] = next
				}
				code := expectedUsed(a, x, "bank.com", step)
				a = checkUsed(t, a, x, "bank.com", step, code)
				if code == impl.AssertOK {
					accepted++
					if cut[handle] || x.Counter <= seen[handle] {
						t.Errorf("%+v is accepted after the counter %d", x, seen[handle])
					}
					seen[handle] = x.Counter
				}
				cut[handle] = cut[handle] || code == impl.AssertCounter
			}
			checkValidAccount(t, a, true)
			for _, c := range a.Credentials {
				if c.Cut != cut[c.Handle] || c.Counter != seen[c.Handle] {
					t.Errorf("after %d steps %+v is in the account", step+1, c)
				}
			}
		}
		if accepted < 5 {
			t.Errorf("%d answers are accepted, and the account is %+v", accepted, a)
		}
	}
}

// The account is a value: the one before the call still accepts the answer.
func TestUseCredentialOfTheSameAccount(t *testing.T) {
	a := registered(1, 3, 4)
	for range 3 {
		checkUsedAtBank(t, a, answerOf(3, 6), impl.AssertOK)
		checkUsedAtBank(t, a, answerOf(3, 5), impl.AssertCounter)
		checkCut(t, a, 3)
		checkRaised(t, a, impl.MethodKey)
		checkAdded(t, a, 2, 77)
	}
}

// accountChanges are calls that return an account, with arguments of every kind.
func accountChanges() map[string]func(impl.Account) impl.Account {
	changes := map[string]func(impl.Account) impl.Account{}
	for _, handle := range []int{-1, 0, 1, 3, 4, 8, maxCounter} {
		name := impl.FormatInt(handle)
		changes["AddCredential of "+name] = func(a impl.Account) impl.Account {
			got, _ := impl.AddCredential(a, handle, 77)
			return got
		}
		changes["AddCredential of "+name+" without a key"] = func(a impl.Account) impl.Account {
			got, _ := impl.AddCredential(a, handle, 0)
			return got
		}
		changes["CutCredential of "+name] = func(a impl.Account) impl.Account {
			got, _ := impl.CutCredential(a, handle)
			return got
		}
		for _, counter := range []int{0, 6, maxCounter + 1} {
			changes["UseCredential of "+name+" with "+impl.FormatInt(counter)] = func(a impl.Account) impl.Account {
				got, _ := impl.UseCredential(a, answerOf(handle, counter), "bank.com", 99)
				return got
			}
		}
	}
	for method := range 5 {
		changes["RaiseMinimum to "+impl.FormatInt(method)] = func(a impl.Account) impl.Account {
			got, _ := impl.RaiseMinimum(a, method)
			return got
		}
	}
	return changes
}

func TestAccountFunctionsLeaveTheirAccounts(t *testing.T) {
	changes := accountChanges()
	for _, a := range append(validAccounts(), invalidAccounts()...) {
		credentials, array := withSpare(credentialOf(66, 66, 66, true), a.Credentials...)
		before := slices.Clone(array)
		account := impl.Account{Id: a.Id, Minimum: a.Minimum, Credentials: credentials}
		for _, change := range changes {
			change(account)
		}
		impl.IsValidAccount(account)
		impl.FindCredential(account, 4)
		impl.AllowsMethod(account, impl.MethodKey)
		impl.EqualAccounts(account, account)
		if !slices.Equal(array, before) || !sameAccount(account, a) {
			t.Errorf("the account %+v became %+v in %v", a, account, array)
		}
	}
}

// The results have memory of their own, also where they are copies.
func TestAccountsAreApart(t *testing.T) {
	for name, change := range accountChanges() {
		for _, a := range append(validAccounts(), invalidAccounts()...) {
			credentials, array := withSpare(credentialOf(66, 66, 66, true), a.Credentials...)
			before := slices.Clone(array)
			got := change(impl.Account{Id: a.Id, Minimum: a.Minimum, Credentials: credentials})
			checkApart(t, name, got.Credentials, credentialOf(99, 99, 99, false), array, before, credentialOf(55, 55, 55, false))
		}
	}
}

// A second call with the same account would overwrite the first result, if both had written to the spare capacity.
func TestResultsOfTwoAccountsAreApart(t *testing.T) {
	for size := range maxCredentials {
		credentials, _ := withSpare(credentialOf(66, 66, 66, true), accountOfSize(size).Credentials...)
		a := accountOf(credentials...)
		first, _ := impl.AddCredential(a, 30, 77)
		second, _ := impl.AddCredential(a, 31, 78)
		third, _ := impl.CutCredential(first, 30)
		if first.Credentials[size] != credentialOf(30, 77, 0, false) || second.Credentials[size] != credentialOf(31, 78, 0, false) || third.Credentials[size] != credentialOf(30, 77, 0, true) {
			t.Errorf("the results are %+v, %+v and %+v", first, second, third)
		}
	}
}

func TestAccountFunctionsIgnoreSpareCapacity(t *testing.T) {
	for _, filler := range []impl.Credential{{}, credentialOf(4, 77, 5, false), credentialOf(9, bankPublic, 5, false), credentialOf(-1, -1, -1, true)} {
		credentials, _ := withSpare(filler, cutAt(registered(3), 0).Credentials...)
		a := accountOf(credentials...)
		checkValidAccount(t, a, true)
		checkAdded(t, a, 4, 77)
		checkAdded(t, a, 2, 78)
		checkNotCut(t, a, filler.Handle)
		checkCredentialAt(t, a, filler.Handle, -1)
		checkUsedAtBank(t, a, answerOf(9, 6), impl.AssertSignature)
		checkAllowed(t, a, impl.MethodKey, false)
		checkEqualAccounts(t, a, cutAt(registered(3), 0), true)
	}
}

// Between the calls with the same account there are others, of which nothing may be left, least of all a cut.
func TestAccountFunctionsKeepNoState(t *testing.T) {
	changes := accountChanges()
	for range 3 {
		a := registered(1, 3, 4)
		checkValidAccount(t, a, true)
		checkAdded(t, a, 2, 77)
		checkCut(t, a, 3)
		checkCredentialAt(t, a, 4, 2)
		checkUsedAtBank(t, a, answerOf(3, 6), impl.AssertOK)
		checkUsedAtBank(t, a, answerOf(3, 5), impl.AssertCounter)
		checkRaised(t, a, impl.MethodKey)
		checkAllowed(t, a, impl.MethodKey, true)
		checkEqualAccounts(t, a, registered(1, 3, 4), true)
		for _, other := range append(validAccounts(), invalidAccounts()...) {
			for _, change := range changes {
				change(other)
			}
		}
	}
}

func TestAccountFunctionsReturnForAllArguments(t *testing.T) {
	numbers := append(anyInts(), 2, 3, maxCounter, maxCounter+1, lastKey, impl.Modulus)
	for _, n := range numbers {
		for _, m := range numbers {
			for _, credentials := range [][]impl.Credential{nil, {credentialOf(n, m, 5, false)}, {credentialOf(3, bankPublic, n, m == n)}, {credentialOf(n, bankPublic, 5, false), credentialOf(m, 77, 5, true)}, {credentialOf(0, n, m, true), credentialOf(3, m, n, false)}} {
				checkAnyAccount(t, impl.Account{Id: n, Minimum: m, Credentials: credentials}, m, n)
				checkAnyAccount(t, accountOf(credentials...), n, m)
			}
		}
	}
	for _, a := range []impl.Account{accountOfSize(5000), accountOf(slices.Repeat(registered(3).Credentials, 5000)...), accountOf(make([]impl.Credential, 9)...)} {
		checkAnyAccount(t, a, 3, 77)
		checkAnyAccount(t, a, math.MaxInt, math.MinInt)
	}
}

// checkAnyAccount uses the two numbers for a handle, a key, a method, a counter and a challenge.
func checkAnyAccount(t *testing.T, a impl.Account, n int, m int) {
	t.Helper()
	valid := expectedValidAccount(a)
	checkValidAccount(t, a, valid)
	exists := func(c impl.Credential) bool { return c.Handle == n || c.Public == m }
	if valid && n >= 0 && n <= 1000000 && m >= 1 && m <= 2147483646 && len(a.Credentials) < 8 && !slices.ContainsFunc(a.Credentials, exists) {
		checkAdded(t, a, n, m)
	} else {
		checkNotAdded(t, a, n, m)
	}
	for _, handle := range []int{n, m, 3} {
		place := expectedCredential(a, handle)
		checkCredentialAt(t, a, handle, place)
		if valid && place >= 0 && !a.Credentials[place].Cut {
			checkCut(t, a, handle)
		} else {
			checkNotCut(t, a, handle)
		}
		for _, x := range []impl.Assertion{{Handle: handle}, answerOf(handle, m), {Site: "bank.com", Origin: "https://bank.com", Challenge: m, Handle: handle, Present: true, Counter: n, Signature: m}} {
			checkUsedAtBank(t, a, x, expectedUsed(a, x, "bank.com", 99))
			checkUsed(t, a, x, "bank.com", m, expectedUsed(a, x, "bank.com", m))
		}
	}
	for _, method := range []int{n, m, 1, 2, 3} {
		if valid && method >= a.Minimum && method <= 3 {
			checkRaised(t, a, method)
		} else {
			checkNotRaised(t, a, method)
		}
		checkAllowed(t, a, method, expectedAllowed(a, method))
	}
	checkEqualAccounts(t, a, withCredentials(a, a.Credentials...), true)
	checkEqualAccounts(t, a, accountOf(credentialOf(n, m, 5, false)), sameAccount(a, accountOf(credentialOf(n, m, 5, false))))
}
