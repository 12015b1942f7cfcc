package tests

import (
	"math"
	"slices"
	"strings"
	"testing"

	"loop.example/g00581/impl"
)

const maxAccounts = 8

func siteOf(accounts ...impl.Account) impl.Site {
	return impl.Site{Name: "bank.com", Accounts: accounts, Book: impl.ChallengeBook{Seed: 9}}
}

func cloneSite(s impl.Site) impl.Site {
	s.Accounts = slices.Clone(s.Accounts)
	for i, a := range s.Accounts {
		s.Accounts[i] = withCredentials(a, a.Credentials...)
	}
	s.Book.Open = slices.Clone(s.Book.Open)
	s.Logins = slices.Clone(s.Logins)
	return s
}

func withAccounts(s impl.Site, accounts ...impl.Account) impl.Site {
	s = cloneSite(s)
	s.Accounts = slices.Clone(accounts)
	return s
}

func withAccountAt(s impl.Site, place int, changed impl.Account) impl.Site {
	s = withAccounts(s, s.Accounts...)
	s.Accounts[place] = changed
	return s
}

func withSeed(s impl.Site, seed int) impl.Site {
	s.Book.Seed = seed
	return s
}

func withName(s impl.Site, name string) impl.Site {
	s.Name = name
	return s
}

// withBook keeps the seed of the site.
func withBook(s impl.Site, b impl.ChallengeBook) impl.Site {
	s = cloneSite(s)
	s.Book = impl.ChallengeBook{Seed: s.Book.Seed, Next: b.Next, Open: slices.Clone(b.Open)}
	return s
}

func withLogins(s impl.Site, logins ...int) impl.Site {
	s = cloneSite(s)
	s.Logins = slices.Clone(logins)
	return s
}

// siteOfSize has gaps between its Ids, and accounts of every size and Minimum.
func siteOfSize(size int) impl.Site {
	s := withBook(siteOf(), bookOfSize(3))
	for i := range size {
		s.Accounts = append(s.Accounts, impl.Account{Id: 3*i + 1, Minimum: 1 + i%3, Credentials: accountOfSize(i * 5 % 9).Credentials})
	}
	return withLogins(s, 4, 1, 99, 4)
}

// personOf is the key store of the owner of the account.
func personOf(id int) impl.KeyStore {
	return storeOf(70+id, 5)
}

// personal has the keys of its owner's store at the site, each with the Counter 5.
func personal(site string, id int, handles ...int) impl.Account {
	a := impl.Account{Id: id, Minimum: impl.MethodCode}
	for _, handle := range handles {
		a.Credentials = append(a.Credentials, credentialOf(handle, expectedPublic(expectedSitePrivate(70+id, site, handle)), 5, false))
	}
	return a
}

// peopleSite is bank.com with an account for each of the Ids, which has the handles 3 and 5.
func peopleSite(ids ...int) impl.Site {
	s := siteOf()
	for _, id := range ids {
		s.Accounts = append(s.Accounts, personal("bank.com", id, 3, 5))
	}
	return s
}

// waitingSite has the open challenges 0, 1 and 2 for its accounts 1, 4 and 7, up to the time 15.
func waitingSite() impl.Site {
	return withBook(peopleSite(1, 4, 7), bookOf(3, challengeOf(0, 1, 15), challengeOf(1, 4, 15), challengeOf(2, 7, 15)))
}

func expectedChallengeValue(s impl.Site, challenge int) int {
	return expectedKeyedHash(s.Book.Seed, 197, challenge)
}

// answerTo is what the owner of the account gives the site for its challenge.
func answerTo(s impl.Site, id int, handle int, challenge int, counter int) impl.Assertion {
	return ownSigned(s, id, impl.Assertion{Site: s.Name, Origin: "https://www." + s.Name, Challenge: expectedChallengeValue(s, challenge), Handle: handle, Present: true, Counter: counter})
}

func ownSigned(s impl.Site, id int, a impl.Assertion) impl.Assertion {
	return signedBy(expectedSitePrivate(70+id, s.Name, a.Handle), a)
}

func siteNames() []string {
	list := []string{}
	for _, host := range someHosts() {
		if strings.Contains(host, ".") {
			list = append(list, host)
		}
	}
	return list
}

func notSiteNames() []string {
	list := notHosts()
	for _, host := range someHosts() {
		if !strings.Contains(host, ".") {
			list = append(list, host)
		}
	}
	return list
}

func siteSeeds() []int {
	return []int{1, 2, 9, 77, 48271, lastKey - 1, lastKey}
}

func validSites() []impl.Site {
	list := []impl.Site{siteOf(), {Name: "a.b", Accounts: []impl.Account{}, Book: impl.ChallengeBook{Seed: 1, Open: []impl.Challenge{}}, Logins: []int{}}, waitingSite()}
	for _, name := range siteNames() {
		list = append(list, withName(siteOf(), name), withName(siteOfSize(2), name))
	}
	for _, seed := range siteSeeds() {
		list = append(list, withSeed(siteOf(), seed), withSeed(siteOfSize(2), seed))
	}
	for size := range maxAccounts + 1 {
		list = append(list, siteOfSize(size), peopleSite([]int{0, 1, 2, 3, 50, 999, maxTime - 1, maxTime}[:size]...))
	}
	for _, a := range validAccounts() {
		list = append(list, siteOf(a))
	}
	for _, b := range validBooks() {
		list = append(list, withBook(siteOf(), b), withBook(siteOfSize(2), b))
	}
	for _, logins := range [][]int{{1}, {4, 4, 4}, {0, -1, 5, math.MaxInt, math.MinInt}, slices.Repeat([]int{1, 4}, 500)} {
		list = append(list, withLogins(siteOf(), logins...), withLogins(siteOfSize(2), logins...))
	}
	return list
}

// invalidSites break one rule each, the rules about an account at every place.
func invalidSites() []impl.Site {
	list := []impl.Site{{}, {Name: "bank.com"}, {Book: impl.ChallengeBook{Seed: 9}}}
	for _, s := range []impl.Site{siteOf(), siteOfSize(3), peopleSite(1, 4, 7), siteOfSize(maxAccounts)} {
		for _, name := range notSiteNames() {
			list = append(list, withName(s, name))
		}
		for _, seed := range invalidKeys() {
			list = append(list, withSeed(s, seed))
		}
		for place, a := range s.Accounts {
			for _, id := range beyondRange(maxTime) {
				list = append(list, withAccountAt(s, place, impl.Account{Id: id, Minimum: a.Minimum, Credentials: a.Credentials}))
			}
			for _, method := range []int{-1, 0, 4} {
				list = append(list, withAccountAt(s, place, impl.Account{Id: a.Id, Minimum: method, Credentials: a.Credentials}))
			}
			list = append(list, sitesOfWrongCredentials(s, place)...)
		}
		for _, b := range invalidBooks() {
			list = append(list, withBook(s, b))
		}
		list = append(list, sitesOfWrongIds(s)...)
	}
	for _, size := range []int{maxAccounts + 1, maxAccounts + 2, 2 * maxAccounts, 100} {
		list = append(list, siteOfSize(size))
	}
	return list
}

func sitesOfWrongCredentials(s impl.Site, place int) []impl.Site {
	list := []impl.Site{}
	for _, a := range []impl.Account{
		accountOfSize(maxCredentials + 1), accountOf(credentialOf(3, 0, 5, false)), accountOf(credentialOf(-1, 77, 5, false)), accountOf(credentialOf(3, 77, maxCounter+1, false)),
		accountOf(credentialOf(3, 77, 5, false), credentialOf(3, 78, 5, false)), accountOf(credentialOf(5, 77, 5, false), credentialOf(3, 78, 5, false)), accountOf(credentialOf(3, 77, 5, true), credentialOf(5, 77, 5, false)),
	} {
		a.Id = s.Accounts[place].Id
		list = append(list, withAccountAt(s, place, a))
	}
	return list
}

// sitesOfWrongIds have one Id twice, or two accounts in the wrong order.
func sitesOfWrongIds(s impl.Site) []impl.Site {
	list := []impl.Site{}
	for j, second := range s.Accounts {
		for i, first := range s.Accounts[:j] {
			renamedFirst, renamedSecond := first, second
			renamedFirst.Id, renamedSecond.Id = second.Id, first.Id
			list = append(list, withAccountAt(s, i, renamedFirst), withAccountAt(s, j, renamedSecond), withAccountAt(s, i, second), withAccountAt(s, j, first))
			list = append(list, withAccountAt(withAccountAt(s, i, second), j, first))
		}
	}
	return list
}

func expectedSiteName(name string) bool {
	return expectedHost(name) && strings.Contains(name, ".")
}

func expectedValidSite(s impl.Site) bool {
	for i, a := range s.Accounts {
		if !expectedValidAccount(a) || i > 0 && a.Id <= s.Accounts[i-1].Id {
			return false
		}
	}
	return expectedSiteName(s.Name) && isKey(s.Book.Seed) && len(s.Accounts) <= 8 && expectedValidBook(s.Book)
}

func expectedAccount(s impl.Site, id int) int {
	for i, a := range s.Accounts {
		if a.Id == id {
			return i
		}
	}
	return -1
}

// expectedLogin gives the two codes that the chapter defines.
func expectedLogin(s impl.Site, id int, challenge int, now int, x impl.Assertion) (int, int) {
	place := expectedAccount(s, id)
	if !expectedValidSite(s) || place < 0 {
		return 1, 0
	}
	open := expectedPlace(s.Book, challenge)
	if open < 0 || s.Book.Open[open].Account != id || s.Book.Open[open].Until < now {
		return 2, 0
	}
	if !expectedAllowed(s.Accounts[place], 3) {
		return 3, 0
	}
	if code := expectedUsed(s.Accounts[place], x, s.Name, expectedChallengeValue(s, challenge)); code != 0 {
		return 4, code
	}
	return 0, 0
}

func sameSite(a impl.Site, b impl.Site) bool {
	return a.Name == b.Name && slices.EqualFunc(a.Accounts, b.Accounts, sameAccount) && sameBook(a.Book, b.Book) && slices.Equal(a.Logins, b.Logins)
}

func checkNewSite(t *testing.T, name string, seed int) {
	t.Helper()
	want := impl.Site{}
	if expectedSiteName(name) && isKey(seed) {
		want = impl.Site{Name: name, Book: impl.ChallengeBook{Seed: seed}}
	}
	if got := impl.NewSite(name, seed); !sameSite(got, want) {
		t.Errorf("NewSite(%q, %d) = %+v, want %+v", name, seed, got, want)
	}
}

func checkValidSite(t *testing.T, s impl.Site, want bool) {
	t.Helper()
	if got := impl.IsValidSite(s); got != want {
		t.Errorf("IsValidSite(%+v) = %v", s, got)
	}
}

func checkAccountOpened(t *testing.T, s impl.Site, id int, method int) impl.Site {
	t.Helper()
	place := 0
	for place < len(s.Accounts) && s.Accounts[place].Id < id {
		place++
	}
	want := withAccounts(s, slices.Concat(s.Accounts[:place], []impl.Account{{Id: id, Minimum: method}}, s.Accounts[place:])...)
	got, ok := impl.OpenAccount(s, id, method)
	if !sameSite(got, want) || !ok {
		t.Errorf("OpenAccount(%+v, %d, %d) = %+v, %v, want %+v, true", s, id, method, got, ok, want)
	}
	return got
}

func checkAccountNotOpened(t *testing.T, s impl.Site, id int, method int) {
	t.Helper()
	if got, ok := impl.OpenAccount(s, id, method); !sameSite(got, s) || ok {
		t.Errorf("OpenAccount(%+v, %d, %d) = %+v, %v", s, id, method, got, ok)
	}
}

func checkAccountAt(t *testing.T, s impl.Site, id int, want int) {
	t.Helper()
	if got := impl.FindAccount(s, id); got != want {
		t.Errorf("FindAccount(%+v, %d) = %d, want %d", s, id, got, want)
	}
}

func withAdded(a impl.Account, handle int, public int) impl.Account {
	a = withCredentials(a, append(slices.Clone(a.Credentials), credentialOf(handle, public, 0, false))...)
	slices.SortFunc(a.Credentials, func(c impl.Credential, d impl.Credential) int { return c.Handle - d.Handle })
	return a
}

func checkRegistered(t *testing.T, s impl.Site, id int, handle int, public int) impl.Site {
	t.Helper()
	place := expectedAccount(s, id)
	want := withAccountAt(s, place, withAdded(s.Accounts[place], handle, public))
	got, ok := impl.RegisterKey(s, id, handle, public)
	if !sameSite(got, want) || !ok {
		t.Errorf("RegisterKey(%+v, %d, %d, %d) = %+v, %v, want %+v, true", s, id, handle, public, got, ok, want)
	}
	return got
}

func checkNotRegistered(t *testing.T, s impl.Site, id int, handle int, public int) {
	t.Helper()
	if got, ok := impl.RegisterKey(s, id, handle, public); !sameSite(got, s) || ok {
		t.Errorf("RegisterKey(%+v, %d, %d, %d) = %+v, %v", s, id, handle, public, got, ok)
	}
}

func checkBegun(t *testing.T, s impl.Site, id int, now int) impl.Site {
	t.Helper()
	open := append(slices.Clone(s.Book.Open), challengeOf(s.Book.Next, id, now+5))
	if len(open) == 17 {
		open = open[1:]
	}
	want := withBook(s, bookOf(s.Book.Next+1, open...))
	got, challenge, value, ok := impl.BeginLogin(s, id, now)
	if !sameSite(got, want) || challenge != s.Book.Next || value != expectedChallengeValue(s, challenge) || !ok {
		t.Errorf("BeginLogin(%+v, %d, %d) = %+v, %d, %d, %v, want %+v, %d, %d, true", s, id, now, got, challenge, value, ok, want, s.Book.Next, expectedChallengeValue(s, s.Book.Next))
	}
	return got
}

func checkNotBegun(t *testing.T, s impl.Site, id int, now int) {
	t.Helper()
	if got, challenge, value, ok := impl.BeginLogin(s, id, now); !sameSite(got, s) || challenge != 0 || value != 0 || ok {
		t.Errorf("BeginLogin(%+v, %d, %d) = %+v, %d, %d, %v", s, id, now, got, challenge, value, ok)
	}
}

// withoutChallenge has the book as TakeChallenge leaves it, whether it accepts the challenge or not.
func withoutChallenge(s impl.Site, challenge int) impl.Site {
	open := slices.DeleteFunc(slices.Clone(s.Book.Open), func(c impl.Challenge) bool { return c.Id == challenge })
	return withBook(s, bookOf(s.Book.Next, open...))
}

// afterLogin is the site as a login with these codes leaves it.
func afterLogin(s impl.Site, id int, challenge int, x impl.Assertion, code int, used int) impl.Site {
	if code == 1 {
		return s
	}
	after := withoutChallenge(s, challenge)
	if code == 4 && used == 4 {
		place := expectedAccount(s, id)
		a := s.Accounts[place]
		after = withAccountAt(after, place, cutAt(a, expectedCredential(a, x.Handle)))
	}
	if code == 0 {
		place := expectedAccount(s, id)
		a := s.Accounts[place]
		at := expectedCredential(a, x.Handle)
		after = withAccountAt(after, place, withCredentialAt(a, at, credentialOf(x.Handle, a.Credentials[at].Public, x.Counter, false)))
		after.Logins = append(after.Logins, id)
	}
	return after
}

func checkLogin(t *testing.T, s impl.Site, id int, challenge int, now int, x impl.Assertion, code int, used int) impl.Site {
	t.Helper()
	want := afterLogin(s, id, challenge, x, code, used)
	got, gotCode, gotUsed := impl.FinishLogin(s, id, challenge, now, x)
	if !sameSite(got, want) || gotCode != code || gotUsed != used {
		t.Errorf("FinishLogin(%+v, %d, %d, %d, %+v) = %+v, %d, %d, want %+v, %d, %d", s, id, challenge, now, x, got, gotCode, gotUsed, want, code, used)
	}
	return got
}

func checkSignedIn(t *testing.T, s impl.Site, id int, challenge int, now int, x impl.Assertion) impl.Site {
	t.Helper()
	return checkLogin(t, s, id, challenge, now, x, impl.LoginOK, impl.AssertOK)
}

func checkNoAccount(t *testing.T, s impl.Site, id int, challenge int, now int, x impl.Assertion) {
	t.Helper()
	checkLogin(t, s, id, challenge, now, x, impl.LoginNoAccount, impl.AssertOK)
}

func checkNoChallenge(t *testing.T, s impl.Site, id int, challenge int, now int, x impl.Assertion) impl.Site {
	t.Helper()
	return checkLogin(t, s, id, challenge, now, x, impl.LoginNoChallenge, impl.AssertOK)
}

func checkNoKey(t *testing.T, s impl.Site, id int, challenge int, now int, x impl.Assertion) impl.Site {
	t.Helper()
	return checkLogin(t, s, id, challenge, now, x, impl.LoginMethod, impl.AssertOK)
}

func checkRefused(t *testing.T, s impl.Site, id int, challenge int, now int, x impl.Assertion, used int) impl.Site {
	t.Helper()
	return checkLogin(t, s, id, challenge, now, x, impl.LoginAssertion, used)
}

func checkLoginAsExpected(t *testing.T, s impl.Site, id int, challenge int, now int, x impl.Assertion) impl.Site {
	t.Helper()
	code, used := expectedLogin(s, id, challenge, now, x)
	return checkLogin(t, s, id, challenge, now, x, code, used)
}

func checkEqualSites(t *testing.T, a impl.Site, b impl.Site, want bool) {
	t.Helper()
	if got := impl.EqualSites(a, b); got != want {
		t.Errorf("EqualSites(%+v, %+v) = %v", a, b, got)
	}
	if got := impl.EqualSites(b, a); got != want {
		t.Errorf("EqualSites(%+v, %+v) = %v", b, a, got)
	}
}

func TestSiteConstants(t *testing.T) {
	codes := [...]int{impl.LoginOK, impl.LoginNoAccount, impl.LoginNoChallenge, impl.LoginMethod, impl.LoginAssertion}
	if impl.MaxAccounts != 8 || codes != [...]int{0, 1, 2, 3, 4} {
		t.Errorf("MaxAccounts is %d and the codes are %v", impl.MaxAccounts, codes)
	}
}

func TestNewSite(t *testing.T) {
	for _, name := range []string{"bank.com", "a.b", "www.bank.com", "a.b.c.d", "10.0.0.1", hostOfLength(60)} {
		for _, seed := range []int{1, 9, 2147483646} {
			got := impl.NewSite(name, seed)
			if !sameSite(got, impl.Site{Name: name, Book: impl.ChallengeBook{Seed: seed}}) {
				t.Errorf("NewSite(%q, %d) = %+v", name, seed, got)
			}
			checkValidSite(t, got, true)
		}
	}
	for _, name := range []string{"", "com", "localhost", "a", ".", "bank.", ".com", "bank..com", "Bank.com", "https://bank.com", "bank.com:443", hostOfLength(61)} {
		for _, seed := range []int{1, 9, 0} {
			if got := impl.NewSite(name, seed); !sameSite(got, impl.Site{}) {
				t.Errorf("NewSite(%q, %d) = %+v", name, seed, got)
			}
		}
	}
	for _, seed := range []int{0, -1, 2147483647, 2147483648, math.MinInt, math.MaxInt} {
		if got := impl.NewSite("bank.com", seed); !sameSite(got, impl.Site{}) {
			t.Errorf("NewSite of the seed %d = %+v", seed, got)
		}
	}
}

func TestNewSiteFollowsItsDefinition(t *testing.T) {
	for _, name := range slices.Concat(someHosts(), notHosts(), storeSites()) {
		for _, seed := range slices.Concat(siteSeeds(), invalidKeys(), anyInts()) {
			checkNewSite(t, name, seed)
		}
	}
}

func TestIsValidSite(t *testing.T) {
	for _, s := range validSites() {
		checkValidSite(t, s, true)
	}
	for _, s := range invalidSites() {
		checkValidSite(t, s, false)
	}
}

func TestIsValidSiteOfEveryAccount(t *testing.T) {
	for _, a := range validAccounts() {
		checkValidSite(t, siteOf(a), true)
		checkValidSite(t, siteOf(impl.Account{Id: 0, Minimum: 1}, a), a.Id > 0)
		checkValidSite(t, siteOf(a, impl.Account{Id: maxTime, Minimum: 1}), a.Id < maxTime)
	}
	for _, a := range invalidAccounts() {
		checkValidSite(t, siteOf(a), false)
		checkValidSite(t, siteOf(a, impl.Account{Id: maxTime, Minimum: 1}), false)
		checkValidSite(t, siteOf(impl.Account{Id: 0, Minimum: 1}, a, impl.Account{Id: maxTime, Minimum: 1}), false)
	}
}

// The seed of a book is of no account in chapter 12.
func TestIsValidSiteOfEveryBook(t *testing.T) {
	for _, b := range validBooks() {
		checkValidSite(t, impl.Site{Name: "bank.com", Book: b}, isKey(b.Seed))
	}
	for _, b := range invalidBooks() {
		checkValidSite(t, impl.Site{Name: "bank.com", Book: b}, false)
	}
}

func TestIsValidSiteOfEverySize(t *testing.T) {
	for size := range 40 {
		checkValidSite(t, siteOfSize(size), size <= 8)
	}
}

func TestIsValidSiteOfEveryOrder(t *testing.T) {
	for size := range 6 {
		for _, ids := range arrangements([]int{0, 1, 4, 8, maxTime}, size) {
			s := siteOf()
			for _, id := range ids {
				s.Accounts = append(s.Accounts, impl.Account{Id: id, Minimum: 2})
			}
			checkValidSite(t, s, slices.IsSorted(ids))
		}
	}
	for choice := range 3 * 3 * 3 {
		a, b, c := choice%3, choice/3%3, choice/9
		checkValidSite(t, siteOf(impl.Account{Id: a, Minimum: 1}, impl.Account{Id: b, Minimum: 1}, impl.Account{Id: c, Minimum: 1}), a < b && b < c)
	}
}

func TestIsValidSiteAtTheEndsOfTheRanges(t *testing.T) {
	for n, want := range map[int]bool{-1: false, 0: false, 1: true, 2: true, 2147483645: true, 2147483646: true, 2147483647: false, 2147483648: false} {
		checkValidSite(t, withSeed(siteOf(), n), want)
		checkValidSite(t, withSeed(siteOfSize(8), n), want)
	}
	for n, want := range map[int]bool{-1: false, 0: true, 1: true, 999999: true, 1000000: true, 1000001: false} {
		checkValidSite(t, siteOf(impl.Account{Id: n, Minimum: 1}), want)
		checkValidSite(t, withBook(siteOf(), bookOf(n)), want)
	}
	for length := 57; length < 65; length++ {
		checkValidSite(t, withName(siteOf(), hostOfLength(length)), length <= 60)
	}
}

// Neither the logins nor the accounts of the challenges need to be accounts of the site, and two accounts may have the same keys.
func TestIsValidSiteIgnoresTheRest(t *testing.T) {
	for _, n := range anyInts() {
		checkValidSite(t, withLogins(siteOfSize(3), n, n, 1, n), true)
		checkValidSite(t, withLogins(siteOf(), n), true)
	}
	for _, n := range []int{0, 1, 2, maxTime, lastTime} {
		checkValidSite(t, withBook(siteOf(), bookOf(3, challengeOf(2, n, 15))), true)
		checkValidSite(t, withBook(siteOfSize(3), bookOf(3, challengeOf(2, n, 15))), true)
	}
	one, other := registered(1, 3), registered(1, 3)
	other.Id = 8
	checkValidSite(t, siteOf(one, other), true)
}

func TestOpenAccount(t *testing.T) {
	three, five := personal("bank.com", 3, 1), impl.Account{Id: 5, Minimum: 1}
	nine := accountOfSize(8)
	nine.Id = 9
	for _, c := range []struct {
		before []impl.Account
		id     int
		after  []impl.Account
	}{
		{nil, 4, []impl.Account{{Id: 4, Minimum: 3}}},
		{[]impl.Account{three, five, nine}, 2, []impl.Account{{Id: 2, Minimum: 3}, three, five, nine}},
		{[]impl.Account{three, five, nine}, 4, []impl.Account{three, {Id: 4, Minimum: 3}, five, nine}},
		{[]impl.Account{three, five, nine}, 6, []impl.Account{three, five, {Id: 6, Minimum: 3}, nine}},
		{[]impl.Account{three, five, nine}, 10, []impl.Account{three, five, nine, {Id: 10, Minimum: 3}}},
	} {
		s := withLogins(withBook(siteOf(c.before...), bookOfSize(2)), 3, 8)
		got, ok := impl.OpenAccount(s, c.id, 3)
		if !sameSite(got, withAccounts(s, c.after...)) || !ok {
			t.Errorf("opening %d in %+v gives %+v, %v", c.id, s, got, ok)
		}
	}
}

func TestOpenAccountAtEveryPlace(t *testing.T) {
	for size := range maxAccounts {
		for place := range size + 1 {
			got := checkAccountOpened(t, siteOfSize(size), 3*place, impl.MethodCode)
			if !sameAccount(got.Accounts[place], impl.Account{Id: 3 * place, Minimum: impl.MethodCode}) {
				t.Errorf("the account %d is not at %d of %+v", 3*place, place, got)
			}
			checkValidSite(t, got, true)
		}
	}
}

func TestOpenAccountsInEveryOrder(t *testing.T) {
	want := siteOf(impl.Account{Id: 0, Minimum: 1}, impl.Account{Id: 2, Minimum: 3}, impl.Account{Id: 5, Minimum: 2}, impl.Account{Id: 9, Minimum: 1}, impl.Account{Id: maxTime, Minimum: 3})
	for _, order := range arrangements(want.Accounts, len(want.Accounts)) {
		s := siteOf()
		for _, a := range order {
			s = checkAccountOpened(t, s, a.Id, a.Minimum)
		}
		if !sameSite(s, want) {
			t.Errorf("opening %+v gives %+v", order, s)
		}
	}
}

func TestOpenAccountThatExists(t *testing.T) {
	for size := 1; size <= maxAccounts; size++ {
		for _, s := range []impl.Site{siteOfSize(size), peopleSite([]int{0, 1, 2, 3, 4, 5, 6, maxTime}[:size]...)} {
			for _, a := range s.Accounts {
				for method := range 5 {
					checkAccountNotOpened(t, s, a.Id, method)
				}
			}
		}
	}
}

func TestOpenAccountUpToTheLimit(t *testing.T) {
	full := checkAccountOpened(t, siteOfSize(7), 30, impl.MethodKey)
	if len(full.Accounts) != 8 {
		t.Errorf("the site is %+v", full)
	}
	s := siteOf()
	for i := range 8 {
		s = checkAccountOpened(t, s, 50-i, 1+i%3)
	}
	for _, full := range []impl.Site{full, s, siteOfSize(8), peopleSite(0, 1, 2, 3, 4, 5, 6, 7)} {
		for _, id := range []int{0, 8, 9, 24, 60, maxTime} {
			checkAccountNotOpened(t, full, id, impl.MethodKey)
		}
	}
}

func TestOpenAccountAtTheEndsOfTheRanges(t *testing.T) {
	for _, s := range []impl.Site{siteOf(), siteOfSize(3), siteOfSize(7), withLogins(withBook(peopleSite(1, 2), bookFrom(0, maxOpen)), 1, 2)} {
		for method := -1; method <= 5; method++ {
			for _, id := range []int{0, 3, 999999, 1000000} {
				if method >= 1 && method <= 3 {
					checkValidSite(t, checkAccountOpened(t, s, id, method), true)
				} else {
					checkAccountNotOpened(t, s, id, method)
				}
			}
			for _, id := range append(beyondRange(maxTime), 1000001, lastTime) {
				checkAccountNotOpened(t, s, id, method)
			}
		}
		for _, method := range beyondRange(3) {
			checkAccountNotOpened(t, s, 3, method)
		}
	}
}

func TestOpenAccountOfAnInvalidSite(t *testing.T) {
	for _, s := range invalidSites() {
		for _, id := range []int{0, 1, 2, 30, maxTime, -1} {
			checkAccountNotOpened(t, s, id, impl.MethodKey)
			checkAccountNotOpened(t, s, id, 0)
		}
	}
}

// The accounts must be in order before, and not only the new one in its place.
func TestOpenAccountDoesNotSort(t *testing.T) {
	accounts := []impl.Account{{Id: 2, Minimum: 1}, {Id: 5, Minimum: 1}, {Id: 8, Minimum: 1}}
	for _, order := range arrangements(accounts, 3) {
		for id := range 11 {
			if sorted := siteOf(order...); expectedValidSite(sorted) && id != 2 && id != 5 && id != 8 {
				checkAccountOpened(t, sorted, id, 2)
			} else {
				checkAccountNotOpened(t, sorted, id, 2)
			}
		}
	}
}

func TestFindAccount(t *testing.T) {
	for _, s := range validSites() {
		for i, a := range s.Accounts {
			checkAccountAt(t, s, a.Id, i)
		}
		for _, id := range []int{-1, 0, 1, 2, 3, 23, maxTime, maxTime + 1, 1 << 32, math.MinInt, math.MaxInt} {
			checkAccountAt(t, s, id, expectedAccount(s, id))
		}
	}
	s := siteOf(impl.Account{Id: 2, Minimum: 1}, impl.Account{Id: 6, Minimum: 1})
	for id := -3; id < 12; id++ {
		checkAccountAt(t, s, id, map[int]int{2: 1, 6: 2}[id]-1)
		checkAccountAt(t, siteOf(), id, -1)
	}
}

func TestFindAccountOfAnInvalidSite(t *testing.T) {
	for _, s := range invalidSites() {
		for _, a := range s.Accounts {
			checkAccountAt(t, s, a.Id, expectedAccount(s, a.Id))
		}
		checkAccountAt(t, s, 2, expectedAccount(s, 2))
	}
	several := impl.Site{Accounts: []impl.Account{{Id: 9}, {Id: 4, Minimum: 3}, {Id: -1}, {Id: 4}, {Id: 9}, {Id: 4}}}
	for id, want := range map[int]int{9: 0, 4: 1, -1: 2, 0: -1, 5: -1} {
		checkAccountAt(t, several, id, want)
	}
	checkAccountAt(t, siteOfSize(300), 3*299+1, 299)
}

func TestRegisterKey(t *testing.T) {
	s := siteOf(impl.Account{Id: 2, Minimum: 3}, impl.Account{Id: 6, Minimum: 1, Credentials: []impl.Credential{credentialOf(1, 30, 5, true), credentialOf(5, 10, 6, false)}})
	got, ok := impl.RegisterKey(s, 2, 4, 77)
	if want := siteOf(impl.Account{Id: 2, Minimum: 3, Credentials: []impl.Credential{credentialOf(4, 77, 0, false)}}, s.Accounts[1]); !sameSite(got, want) || !ok {
		t.Errorf("the first key gives %+v, %v", got, ok)
	}
	got, ok = impl.RegisterKey(s, 6, 4, 77)
	if want := siteOf(s.Accounts[0], impl.Account{Id: 6, Minimum: 1, Credentials: []impl.Credential{credentialOf(1, 30, 5, true), credentialOf(4, 77, 0, false), credentialOf(5, 10, 6, false)}}); !sameSite(got, want) || !ok {
		t.Errorf("the second key gives %+v, %v", got, ok)
	}
}

func TestRegisterKeyAtEachAccount(t *testing.T) {
	for size := range maxAccounts + 1 {
		s := siteOfSize(size)
		for _, a := range s.Accounts {
			for _, handle := range []int{0, 2, 3, 30, maxCounter} {
				if len(a.Credentials) < maxCredentials {
					checkValidSite(t, checkRegistered(t, s, a.Id, handle, 77), true)
				} else {
					checkNotRegistered(t, s, a.Id, handle, 77)
				}
			}
		}
		for _, id := range []int{-1, 0, 2, 3, 3*size + 1, maxTime, maxTime + 1, math.MinInt, math.MaxInt} {
			checkNotRegistered(t, s, id, 30, 77)
		}
	}
}

func TestRegisterKeyThatExists(t *testing.T) {
	s := siteOf(cutAt(personal("bank.com", 1, 3, 5), 0), personal("bank.com", 4, 3, 5), personal("bank.com", 7, 4))
	for _, a := range s.Accounts {
		for _, c := range a.Credentials {
			checkNotRegistered(t, s, a.Id, c.Handle, 77)
			checkNotRegistered(t, s, a.Id, c.Handle, c.Public)
			checkNotRegistered(t, s, a.Id, 6, c.Public)
			checkNotRegistered(t, s, a.Id, 0, c.Public)
		}
	}
}

// The key is looked for in the account only, so the same one may open another account as well.
func TestRegisterKeyOfAnotherAccount(t *testing.T) {
	s := peopleSite(1, 4, 7)
	for _, a := range s.Accounts {
		for _, b := range s.Accounts {
			if a.Id != b.Id {
				checkRegistered(t, s, a.Id, 6, b.Credentials[0].Public)
				checkRegistered(t, s, a.Id, 4, b.Credentials[1].Public)
			}
		}
	}
}

func TestRegisterKeysUpToTheLimit(t *testing.T) {
	s := checkAccountOpened(t, peopleSite(1, 7), 4, impl.MethodKey)
	for i := range 8 {
		s = checkRegistered(t, s, 4, 50-i, 100+i)
	}
	for _, handle := range []int{0, 42, 51, maxCounter} {
		checkNotRegistered(t, s, 4, handle, 77)
		checkRegistered(t, s, 1, handle, 77)
		checkRegistered(t, s, 7, handle, 77)
	}
}

func TestRegisterKeyAtTheEndsOfTheRanges(t *testing.T) {
	for _, s := range []impl.Site{peopleSite(1, 4, 7), siteOf(impl.Account{Id: 4, Minimum: 1}), siteOf(impl.Account{Id: 0, Minimum: 1}, impl.Account{Id: 4, Minimum: 3}, impl.Account{Id: maxTime, Minimum: 1})} {
		for _, handle := range []int{0, 1, 999999, 1000000} {
			checkRegistered(t, s, 4, handle, 77)
		}
		for _, handle := range beyondRange(maxCounter) {
			checkNotRegistered(t, s, 4, handle, 77)
		}
		for _, public := range []int{1, 2, 2147483645, 2147483646} {
			checkRegistered(t, s, 4, 8, public)
		}
		for _, public := range notKeys() {
			checkNotRegistered(t, s, 4, 8, public)
		}
	}
	s := siteOf(impl.Account{Id: 0, Minimum: 1}, impl.Account{Id: maxTime, Minimum: 1})
	checkRegistered(t, s, 0, 8, 77)
	checkRegistered(t, s, maxTime, 8, 77)
}

func TestRegisterKeyOfAnInvalidSite(t *testing.T) {
	for _, s := range invalidSites() {
		for _, a := range s.Accounts[:min(len(s.Accounts), 9)] {
			checkNotRegistered(t, s, a.Id, 30, 77)
		}
		checkNotRegistered(t, s, 0, 30, 77)
		checkNotRegistered(t, s, 0, -1, 0)
	}
}

func TestBeginLogin(t *testing.T) {
	s, challenge, value, ok := impl.BeginLogin(peopleSite(1, 4), 4, 10)
	if !sameSite(s, withBook(peopleSite(1, 4), bookOf(1, challengeOf(0, 4, 15)))) || challenge != 0 || value != 933050333 || !ok {
		t.Errorf("the first login begins with %d, %d, %v at %+v", challenge, value, ok, s)
	}
	s, challenge, value, ok = impl.BeginLogin(s, 1, 8)
	if !sameSite(s, withBook(peopleSite(1, 4), bookOf(2, challengeOf(0, 4, 15), challengeOf(1, 1, 13)))) || challenge != 1 || value != 934050336 || !ok {
		t.Errorf("the second login begins with %d, %d, %v at %+v", challenge, value, ok, s)
	}
}

// The value follows from the seed of the site and the Id of the challenge.
func TestBeginLoginOfEverySeed(t *testing.T) {
	for _, seed := range siteSeeds() {
		for _, next := range []int{0, 1, 9, maxCounter - 1} {
			s := checkBegun(t, withBook(withSeed(siteOfSize(3), seed), bookOf(next)), 4, 10)
			if got := impl.ChallengeValue(s.Book, next); got != expectedKeyedHash(seed, 197, next) {
				t.Errorf("the value of %d is %d", next, got)
			}
		}
	}
}

func TestBeginLoginOfEachAccount(t *testing.T) {
	for size := range maxAccounts + 1 {
		for _, s := range []impl.Site{siteOfSize(size), peopleSite([]int{0, 1, 2, 3, 50, 999, maxTime - 1, maxTime}[:size]...)} {
			for _, a := range s.Accounts {
				checkValidSite(t, checkBegun(t, s, a.Id, 10), true)
			}
			for _, id := range []int{-1, 5, 3*size + 2, 1000, maxTime + 1, lastTime, math.MinInt, math.MaxInt} {
				checkNotBegun(t, s, id, 10)
			}
		}
	}
}

func TestBeginLoginFollowsItsDefinition(t *testing.T) {
	for _, s := range validSites() {
		for _, a := range s.Accounts {
			for _, now := range []int{0, 10, maxTime} {
				if s.Book.Next < maxCounter {
					checkBegun(t, s, a.Id, now)
				} else {
					checkNotBegun(t, s, a.Id, now)
				}
			}
		}
		checkNotBegun(t, s, expectedUnusedId(s), 10)
	}
}

func expectedUnusedId(s impl.Site) int {
	id := 0
	for expectedAccount(s, id) >= 0 {
		id++
	}
	return id
}

// In a full book, the first challenge makes room; its login cannot be finished any more.
func TestBeginLoginInAFullBook(t *testing.T) {
	s := peopleSite(1, 4)
	for i := range maxOpen {
		s = checkBegun(t, s, 1, 10)
		if len(s.Book.Open) != i+1 {
			t.Errorf("after %d logins the site is %+v", i+1, s)
		}
	}
	full := checkBegun(t, s, 4, 10)
	if len(full.Book.Open) != 16 || full.Book.Open[0].Id != 1 || full.Book.Open[15] != challengeOf(16, 4, 15) {
		t.Errorf("the full book is %+v", full.Book)
	}
	checkSignedIn(t, s, 1, 0, 10, answerTo(s, 1, 3, 0, 6))
	checkNoChallenge(t, full, 1, 0, 10, answerTo(s, 1, 3, 0, 6))
	checkSignedIn(t, full, 1, 1, 10, answerTo(s, 1, 3, 1, 6))
	checkSignedIn(t, full, 4, 16, 10, answerTo(s, 4, 3, 16, 6))
}

func TestBeginLoginUpToTheLastChallenge(t *testing.T) {
	for _, size := range []int{0, 1, maxOpen - 1, maxOpen} {
		s := withBook(peopleSite(1, 4), bookFrom(maxCounter-2-size, size))
		s = checkBegun(t, checkBegun(t, s, 1, 10), 4, 10)
		checkNotBegun(t, s, 1, 10)
		s = checkSignedIn(t, s, 4, 999999, 10, answerTo(s, 4, 3, 999999, 6))
		checkNotBegun(t, s, 4, 10)
	}
}

func TestBeginLoginAtTheEndsOfTheRanges(t *testing.T) {
	for _, s := range []impl.Site{peopleSite(0), peopleSite(0, 1, maxTime), withBook(peopleSite(0, 1, 2, 3, 4, 5, 6, 7), bookFrom(0, maxOpen))} {
		for n, ok := range map[int]bool{-2: false, -1: false, 0: true, 1: true, 999999: true, 1000000: true, 1000001: false, lastTime: false} {
			if ok {
				checkBegun(t, s, 0, n)
			} else {
				checkNotBegun(t, s, 0, n)
			}
		}
		for _, now := range beyondRange(maxTime) {
			checkNotBegun(t, s, 0, now)
			checkNotBegun(t, s, now, 10)
		}
	}
	checkBegun(t, peopleSite(0, maxTime), maxTime, maxTime)
}

// Whether the account has a key is looked at when the login is finished.
func TestBeginLoginWithoutKey(t *testing.T) {
	checkBegun(t, siteOf(impl.Account{Id: 4, Minimum: 3}), 4, 10)
	checkBegun(t, siteOf(cutAt(personal("bank.com", 4, 3), 0)), 4, 10)
}

func TestBeginLoginOfAnInvalidSite(t *testing.T) {
	for _, s := range invalidSites() {
		for _, a := range s.Accounts[:min(len(s.Accounts), 9)] {
			checkNotBegun(t, s, a.Id, 10)
		}
		checkNotBegun(t, s, 0, 10)
		checkNotBegun(t, s, 0, -1)
	}
}

func TestFinishLogin(t *testing.T) {
	s, challenge, value, _ := impl.BeginLogin(withLogins(siteOf(impl.Account{Id: 4, Minimum: 3, Credentials: []impl.Credential{credentialOf(3, bankPublic, 5, false)}}), 8), 4, 10)
	_, x, _ := impl.MakeAssertion(storeOf(77, 5), secureAt("www.bank.com"), "bank.com", 3, value, true)
	s, code, used := impl.FinishLogin(s, 4, challenge, 15, x)
	want := impl.Site{Name: "bank.com", Accounts: []impl.Account{{Id: 4, Minimum: 3, Credentials: []impl.Credential{credentialOf(3, bankPublic, 6, false)}}}, Book: impl.ChallengeBook{Seed: 9, Next: 1}, Logins: []int{8, 4}}
	if !sameSite(s, want) || code != 0 || used != 0 {
		t.Errorf("the login gives %+v, %d, %d", s, code, used)
	}
	s, code, used = impl.FinishLogin(s, 4, challenge, 15, x)
	if !sameSite(s, want) || code != 2 || used != 0 {
		t.Errorf("the same login again gives %+v, %d, %d", s, code, used)
	}
}

// A person may finish the logins in another order than they were begun in, also those at another account.
func TestFinishLoginsInEveryOrder(t *testing.T) {
	s := peopleSite(1, 4, 7)
	ids := []int{4, 1, 4, 7, 1}
	for _, id := range ids {
		s = checkBegun(t, s, id, 10)
	}
	for _, order := range arrangements([]int{0, 1, 2, 3, 4}, 5) {
		after, logins := s, []int{}
		counters := map[int]int{}
		for _, challenge := range order {
			id := ids[challenge]
			counters[id]++
			after = checkSignedIn(t, after, id, challenge, 12, answerTo(s, id, 3, challenge, 5+counters[id]))
			logins = append(logins, id)
		}
		if !slices.Equal(after.Logins, logins) || len(after.Book.Open) != 0 {
			t.Errorf("after the logins %v the site is %+v", logins, after)
		}
	}
}

func TestLoginsInARow(t *testing.T) {
	for size := 1; size <= maxAccounts; size++ {
		ids := []int{0, 1, 2, 3, 50, 999, maxTime - 1, maxTime}[:size]
		s := peopleSite(ids...)
		stores := map[int]impl.KeyStore{}
		for _, id := range ids {
			stores[id] = personOf(id)
		}
		for i := range 40 {
			id, handle := ids[i*5%size], []int{3, 5}[i%2]
			begun := checkBegun(t, s, id, i)
			var x impl.Assertion
			stores[id], x, _ = impl.MakeAssertion(stores[id], originOf(t, siteOrigins()[i%len(siteOrigins())]), "bank.com", handle, expectedChallengeValue(s, i), true)
			s = checkSignedIn(t, begun, id, i, i+i%6, x)
			checkValidSite(t, s, true)
			if len(s.Logins) != i+1 || s.Logins[i] != id {
				t.Errorf("after %d logins the site is %+v", i+1, s)
			}
		}
	}
}

func TestFinishLoginWithEachCredential(t *testing.T) {
	handles := []int{0, 1, 3, 77, 1000, maxCounter - 2, maxCounter - 1, maxCounter}
	for size := 1; size <= maxCredentials; size++ {
		s := siteOf(personal("bank.com", 4, handles[:size]...), personal("bank.com", 7, handles...))
		s = checkBegun(t, s, 4, 10)
		for _, handle := range handles[:size] {
			checkSignedIn(t, s, 4, 0, 15, answerTo(s, 4, handle, 0, 6))
			checkRefused(t, s, 4, 0, 15, answerTo(s, 7, handle, 0, 6), impl.AssertSignature)
		}
		for _, handle := range handles[size:] {
			checkRefused(t, s, 4, 0, 15, answerTo(s, 4, handle, 0, 6), impl.AssertSignature)
		}
	}
}

func TestFinishLoginOfEverySite(t *testing.T) {
	for _, name := range siteNames() {
		if len(name) > 56 {
			continue
		}
		for _, seed := range siteSeeds() {
			s := impl.Site{Name: name, Accounts: []impl.Account{personal(name, 4, 3)}, Book: impl.ChallengeBook{Seed: seed}}
			s = checkBegun(t, s, 4, 10)
			_, x, ok := impl.MakeAssertion(personOf(4), secureAt("www."+name), name, 3, expectedChallengeValue(s, 0), true)
			checkSignedIn(t, s, 4, 0, 10, x)
			if !ok {
				t.Errorf("no assertion for %q", name)
			}
		}
	}
}

func TestFinishLoginTwice(t *testing.T) {
	s := waitingSite()
	for _, c := range s.Book.Open {
		x := answerTo(s, c.Account, 3, c.Id, 6)
		after := checkSignedIn(t, s, c.Account, c.Id, 10, x)
		for _, now := range []int{0, 10, 15, 16} {
			after = checkNoChallenge(t, after, c.Account, c.Id, now, x)
		}
		checkNoChallenge(t, after, c.Account, c.Id, 10, answerTo(s, c.Account, 5, c.Id, 7))
	}
}

// A refused answer uses the challenge up, whatever it was refused for, so a good one comes too late.
func TestFinishLoginAfterARefusal(t *testing.T) {
	s := waitingSite()
	good := answerTo(s, 4, 3, 1, 6)
	absent := good
	absent.Present = false
	for _, x := range []impl.Assertion{{}, absent, answerTo(s, 4, 3, 2, 6), answerTo(s, 4, 3, 1, 5), answerTo(s, 4, 9, 1, 6), answerTo(withName(s, "shop.org"), 4, 3, 1, 6)} {
		after, code, _ := impl.FinishLogin(s, 4, 1, 10, x)
		if code != impl.LoginAssertion {
			t.Errorf("%+v gives %d", x, code)
		}
		checkNoChallenge(t, after, 4, 1, 10, good)
	}
	for _, after := range []impl.Site{checkNoChallenge(t, s, 1, 1, 10, good), checkNoChallenge(t, s, 4, 1, 16, good)} {
		checkNoChallenge(t, after, 4, 1, 10, good)
	}
}

// The challenge belongs to one account, also where the other account has the same key.
func TestFinishLoginOfAnotherAccount(t *testing.T) {
	s := waitingSite()
	for _, c := range s.Book.Open {
		for _, id := range []int{1, 4, 7} {
			if id != c.Account {
				checkNoChallenge(t, s, id, c.Id, 10, answerTo(s, id, 3, c.Id, 6))
				checkNoChallenge(t, s, id, c.Id, 10, answerTo(s, c.Account, 3, c.Id, 6))
			}
		}
	}
	one, other := registered(3), registered(3)
	other.Id = 8
	shared := withBook(siteOf(one, other), bookOf(2, challengeOf(0, 7, 15), challengeOf(1, 8, 15)))
	checkSignedIn(t, shared, 7, 0, 10, answerTo(shared, 7, 3, 0, 6))
	checkSignedIn(t, shared, 8, 1, 10, answerTo(shared, 7, 3, 1, 6))
	checkNoChallenge(t, shared, 8, 0, 10, answerTo(shared, 7, 3, 0, 6))
	checkNoChallenge(t, shared, 7, 1, 10, answerTo(shared, 7, 3, 1, 6))
}

func TestFinishLoginInTime(t *testing.T) {
	for _, begun := range []int{0, 1, 10, 999999, maxTime} {
		s := checkBegun(t, peopleSite(4), 4, begun)
		x := answerTo(s, 4, 3, 0, 6)
		for _, now := range []int{begun - 1, begun, begun + 4, begun + 5, 0, -1, math.MinInt} {
			checkSignedIn(t, s, 4, 0, now, x)
		}
		for _, now := range []int{begun + 6, begun + 7, maxTime + 6, 1 << 40, math.MaxInt} {
			checkNoChallenge(t, s, 4, 0, now, x)
		}
	}
}

func TestFinishLoginWithoutChallenge(t *testing.T) {
	for _, s := range []impl.Site{peopleSite(1, 4, 7), waitingSite(), withBook(peopleSite(4), bookOf(maxCounter)), withBook(peopleSite(4), bookFrom(5, maxOpen))} {
		for _, challenge := range []int{-1, -2, 3, 4, 30, maxCounter, maxCounter + 1, impl.Modulus, 1 - impl.Modulus, 1 + impl.Modulus, 1 << 32, math.MinInt, math.MaxInt} {
			got := checkNoChallenge(t, s, 4, challenge, 10, answerTo(s, 4, 3, challenge, 6))
			if !sameSite(got, s) {
				t.Errorf("without a challenge the site becomes %+v", got)
			}
		}
	}
	empty := peopleSite(4)
	for challenge := range 3 {
		checkNoChallenge(t, empty, 4, challenge, 10, answerTo(empty, 4, 3, challenge, 6))
	}
}

// Nothing is known of the answer then, so even the one of a clone changes no account.
func TestFinishLoginWithoutChallengeKeepsTheAccounts(t *testing.T) {
	s := waitingSite()
	for _, counter := range []int{0, 5, 6, maxCounter} {
		for _, got := range []impl.Site{
			checkNoChallenge(t, s, 4, 9, 10, answerTo(s, 4, 3, 9, counter)), checkNoChallenge(t, s, 4, 1, 16, answerTo(s, 4, 3, 1, counter)),
			checkNoChallenge(t, s, 1, 1, 10, answerTo(s, 1, 3, 1, counter)), checkNoChallenge(t, s, 4, 2, 10, answerTo(s, 7, 3, 2, counter)),
		} {
			if !slices.EqualFunc(got.Accounts, s.Accounts, sameAccount) || len(got.Logins) != 0 {
				t.Errorf("without a challenge the site becomes %+v", got)
			}
		}
	}
}

func TestFinishLoginWithoutKey(t *testing.T) {
	for method := 1; method <= 3; method++ {
		for size := range maxCredentials + 1 {
			handles := []int{0, 1, 2, 3, 4, 5, 6, 7}[:size]
			a := personal("bank.com", 4, handles...)
			a.Minimum = method
			for place := range a.Credentials {
				a = cutAt(a, place)
			}
			s := withBook(siteOf(personal("bank.com", 1, 3), a), bookOf(3, challengeOf(0, 1, 15), challengeOf(2, 4, 15)))
			for _, x := range []impl.Assertion{answerTo(s, 4, 3, 2, 6), answerTo(s, 4, 3, 2, 0), answerTo(s, 1, 3, 2, 6), answerTo(s, 4, 9, 2, 6), {}} {
				got := checkNoKey(t, s, 4, 2, 10, x)
				checkNoChallenge(t, got, 4, 2, 10, x)
				checkNoChallenge(t, s, 4, 2, 16, x)
				checkNoChallenge(t, s, 4, 0, 10, x)
			}
			checkSignedIn(t, s, 1, 0, 10, answerTo(s, 1, 3, 0, 6))
		}
	}
}

// Of all sets of cut credentials, only the whole one leaves no key.
func TestFinishLoginOfEverySet(t *testing.T) {
	handles := []int{0, 1, 2, 3}
	for set := range 16 {
		a := personal("bank.com", 4, handles...)
		for i := range handles {
			a.Credentials[i].Cut = set>>i&1 == 1
		}
		s := withBook(siteOf(a), bookOf(1, challengeOf(0, 4, 15)))
		for i, handle := range handles {
			x := answerTo(s, 4, handle, 0, 6)
			if set == 15 {
				checkNoKey(t, s, 4, 0, 10, x)
			} else if set>>i&1 == 1 {
				checkRefused(t, s, 4, 0, 10, x, impl.AssertSignature)
			} else {
				checkSignedIn(t, s, 4, 0, 10, x)
			}
		}
	}
}

// A key is the strongest method, so it opens an account of each Minimum.
func TestFinishLoginAtEveryMinimum(t *testing.T) {
	for method := 1; method <= 3; method++ {
		a := personal("bank.com", 4, 3)
		a.Minimum = method
		s := withBook(siteOf(a), bookOf(1, challengeOf(0, 4, 15)))
		checkSignedIn(t, s, 4, 0, 10, answerTo(s, 4, 3, 0, 6))
		checkRefused(t, s, 4, 0, 10, answerTo(s, 4, 3, 0, 5), impl.AssertCounter)
	}
}

func TestFinishLoginThatIsRefused(t *testing.T) {
	for _, s := range []impl.Site{waitingSite(), withBook(siteOf(personal("bank.com", 4, 3)), waitingSite().Book), withLogins(waitingSite(), 4, 4, 1)} {
		good := answerTo(s, 4, 3, 1, 6)
		for _, x := range faultyOrigins(good) {
			checkRefused(t, s, 4, 1, 10, ownSigned(s, 4, x), impl.AssertOrigin)
		}
		absent := good
		absent.Present = false
		checkRefused(t, s, 4, 1, 10, ownSigned(s, 4, absent), impl.AssertPresence)
		checkRefused(t, s, 4, 1, 10, absent, impl.AssertPresence)
		for _, challenge := range []int{0, 2, 3} {
			checkRefused(t, s, 4, 1, 10, answerTo(s, 4, 3, challenge, 6), impl.AssertChallenge)
		}
		for _, challenge := range []int{1, good.Challenge + 1, good.Challenge + impl.Modulus, 0} {
			x := good
			x.Challenge = challenge
			checkRefused(t, s, 4, 1, 10, ownSigned(s, 4, x), impl.AssertChallenge)
		}
		for _, counter := range []int{math.MinInt, -1, 0, 4, 5} {
			got := checkRefused(t, s, 4, 1, 10, answerTo(s, 4, 3, 1, counter), impl.AssertCounter)
			if a := got.Accounts[expectedAccount(s, 4)]; !a.Credentials[0].Cut || a.Credentials[0].Counter != 5 {
				t.Errorf("after the answer of a clone the account is %+v", a)
			}
		}
		for _, signature := range []int{0, 1, -1, good.Signature + 1, good.Signature + impl.Modulus} {
			x := good
			x.Signature = signature
			checkRefused(t, s, 4, 1, 10, x, impl.AssertSignature)
		}
		checkRefused(t, s, 4, 1, 10, answerTo(s, 1, 3, 1, 6), impl.AssertSignature)
		checkRefused(t, s, 4, 1, 10, answerTo(s, 4, 4, 1, 6), impl.AssertSignature)
		checkRefused(t, s, 4, 1, 10, impl.Assertion{}, impl.AssertSignature)
	}
}

// The site compares the Site of an assertion with its own Name, and a site of the same seed has the same values.
func TestFinishLoginAtAnotherSite(t *testing.T) {
	for _, name := range []string{"shop.org", "www.bank.com", "bank.com.evil.net", "ank.com"} {
		s := impl.Site{Name: name, Accounts: []impl.Account{personal(name, 4, 3)}, Book: waitingSite().Book}
		for _, origin := range append(siteOrigins(), otherOrigins()...) {
			x := answerTo(waitingSite(), 4, 3, 1, 6)
			x.Origin = origin
			checkRefused(t, s, 4, 1, 10, ownSigned(waitingSite(), 4, x), impl.AssertOrigin)
		}
		checkRefused(t, waitingSite(), 4, 1, 10, answerTo(s, 4, 3, 1, 6), impl.AssertOrigin)
		checkSignedIn(t, s, 4, 1, 10, answerTo(s, 4, 3, 1, 6))
	}
}

// Whoever of the device and its clone answers second is noticed, and the key is of no use to either.
func TestFinishLoginOfAClone(t *testing.T) {
	s := peopleSite(1, 4, 7)
	for range 6 {
		s = checkBegun(t, s, 4, 10)
	}
	store := personOf(4)
	clone := impl.CloneStore(store)
	answer := func(store impl.KeyStore, handle int, challenge int) (impl.KeyStore, impl.Assertion) {
		store, x, _ := impl.MakeAssertion(store, secureAt("bank.com"), "bank.com", handle, expectedChallengeValue(s, challenge), true)
		return store, x
	}
	store, first := answer(store, 3, 0)
	clone, second := answer(clone, 3, 1)
	s = checkSignedIn(t, s, 4, 0, 10, first)
	s = checkRefused(t, s, 4, 1, 10, second, impl.AssertCounter)
	store, third := answer(store, 3, 2)
	s = checkRefused(t, s, 4, 2, 10, third, impl.AssertSignature)
	store, fourth := answer(store, 5, 3)
	s = checkSignedIn(t, s, 4, 3, 10, fourth)
	_, fifth := answer(clone, 5, 4)
	s = checkRefused(t, s, 4, 4, 10, fifth, impl.AssertCounter)
	_, sixth := answer(store, 5, 5)
	s = checkNoKey(t, s, 4, 5, 10, sixth)
	if !slices.Equal(s.Logins, []int{4, 4}) {
		t.Errorf("the logins are %v", s.Logins)
	}
}

// UseCredential takes a counter of any size; the account and with it the site are not valid then, and nobody signs in there any more.
func TestFinishLoginBeyondMaxCounter(t *testing.T) {
	s := waitingSite()
	for _, counter := range []int{maxCounter - 1, maxCounter} {
		checkValidSite(t, checkSignedIn(t, s, 4, 1, 10, answerTo(s, 4, 3, 1, counter)), true)
	}
	for _, counter := range []int{maxCounter + 1, impl.Modulus + 6, math.MaxInt} {
		after := checkSignedIn(t, s, 4, 1, 10, answerTo(s, 4, 3, 1, counter))
		checkValidSite(t, after, false)
		checkNoAccount(t, after, 1, 0, 10, answerTo(s, 1, 3, 0, 6))
		checkNotBegun(t, after, 1, 10)
		checkNotRegistered(t, after, 1, 6, 77)
		checkAccountNotOpened(t, after, 2, 1)
	}
}

func TestFinishLoginWithoutAccount(t *testing.T) {
	for _, s := range []impl.Site{siteOf(), waitingSite(), withBook(siteOf(), waitingSite().Book), withBook(peopleSite(0, 1, 2, 3, 4, 5, 6, 7), bookOf(3, challengeOf(2, 9, 15))), withLogins(withBook(siteOf(), waitingSite().Book), 5, 9)} {
		for _, id := range []int{-1, 8, 9, 40, maxTime, maxTime + 1, math.MinInt, math.MaxInt} {
			for challenge := -1; challenge < 4; challenge++ {
				checkNoAccount(t, s, id, challenge, 10, answerTo(s, id, 3, challenge, 6))
				checkNoAccount(t, s, id, challenge, 16, impl.Assertion{})
			}
		}
	}
}

func TestFinishLoginOfAnInvalidSite(t *testing.T) {
	for _, s := range invalidSites() {
		for _, a := range s.Accounts[:min(len(s.Accounts), 9)] {
			for _, challenge := range []int{0, 1, 4} {
				checkNoAccount(t, s, a.Id, challenge, 10, impl.Assertion{Handle: 1})
			}
		}
		checkNoAccount(t, s, 0, 1, 10, impl.Assertion{})
	}
	for _, s := range []impl.Site{withName(waitingSite(), "com"), withName(waitingSite(), ""), withSeed(waitingSite(), 0), withSeed(waitingSite(), -1), withSeed(waitingSite(), lastKey+1), withAccounts(waitingSite(), append(waitingSite().Accounts, personal("bank.com", 7, 3))...), withAccounts(waitingSite(), personal("bank.com", 7), personal("bank.com", 4, 3))} {
		x := answerTo(s, 4, 3, 1, 6)
		x.Site, x.Origin = "bank.com", "https://bank.com"
		checkNoAccount(t, s, 4, 1, 10, signedBy(expectedSitePrivate(74, "bank.com", 3), x))
	}
}

// Of several reasons, the first of the chapter's list is reported.
func TestFinishLoginPrecedence(t *testing.T) {
	s := withBook(siteOf(personal("bank.com", 4), personal("bank.com", 7, 3)), bookOf(3, challengeOf(0, 4, 15), challengeOf(1, 7, 15)))
	wrong := answerTo(s, 7, 3, 1, 5)
	checkNoAccount(t, s, 5, 9, 16, wrong)
	checkNoAccount(t, withSeed(s, 0), 4, 0, 16, wrong)
	checkNoChallenge(t, s, 4, 0, 16, wrong)
	checkNoChallenge(t, s, 4, 1, 10, wrong)
	checkNoChallenge(t, s, 7, 1, 16, wrong)
	checkNoKey(t, s, 4, 0, 15, wrong)
	checkRefused(t, s, 7, 1, 15, wrong, impl.AssertCounter)
}

func TestFinishLoginFollowsItsDefinition(t *testing.T) {
	s := waitingSite()
	s.Accounts = append(s.Accounts, cutAt(personal("bank.com", 9, 3), 0), personal("bank.com", 11))
	s.Book = bookOf(9, append(slices.Clone(s.Book.Open), challengeOf(5, 9, 12), challengeOf(7, 11, 15), challengeOf(8, 12, 15))...)
	s.Book.Seed = 9
	counts := map[int]int{}
	for _, id := range []int{1, 4, 7, 9, 11, 12} {
		for _, challenge := range []int{0, 1, 2, 5, 7, 8, 9} {
			for _, now := range []int{10, 12, 13, 15, 16} {
				for _, handle := range []int{3, 5, 6} {
					for _, x := range []impl.Assertion{answerTo(s, id, handle, challenge, 6), answerTo(s, id, handle, challenge, 5), answerTo(s, 4, handle, 1, 7)} {
						checkLoginAsExpected(t, s, id, challenge, now, x)
						code, _ := expectedLogin(s, id, challenge, now, x)
						counts[code]++
					}
				}
			}
		}
	}
	for code := range 5 {
		if counts[code] == 0 {
			t.Errorf("no login ends with %d", code)
		}
	}
}

// What is in the logins already does not matter, and every login adds to them, also one of an account that is there.
func TestLoginsAreAppended(t *testing.T) {
	for _, logins := range [][]int{nil, {4}, {4, 4, 4}, {1, 7, 1}, {99, -1, math.MinInt}, slices.Repeat([]int{4, 1}, 300)} {
		s := withLogins(waitingSite(), logins...)
		got := checkSignedIn(t, s, 4, 1, 10, answerTo(s, 4, 3, 1, 6))
		got = checkSignedIn(t, got, 1, 0, 10, answerTo(s, 1, 5, 0, 6))
		if !slices.Equal(got.Logins, append(slices.Clone(logins), 4, 1)) {
			t.Errorf("after %v the logins are %v", logins, got.Logins)
		}
	}
}

// sitting is what a test knows of one challenge beside the site.
type sitting struct {
	account int
	begun   int
	over    bool
	answer  impl.Assertion
}

// Promise 15: of all answers of a long time, one is accepted only for a challenge of the account that nobody has answered, in time.
func TestLoginsOverALongTime(t *testing.T) {
	accepted, codes := 0, map[int]int{}
	for start := 1; start <= 30; start++ {
		draw := start
		below := func(n int) int {
			draw = (draw*48271 + 11) % impl.Modulus
			return draw / 7 % n
		}
		s, ids := peopleSite(1, 4, 7), []int{1, 4, 7, 9}
		stores := map[int]impl.KeyStore{1: personOf(1), 4: personOf(4), 7: personOf(7), 9: personOf(9)}
		sittings := []sitting{}
		now := 0
		for range 120 {
			now += below(3) / 2
			id := ids[below(4)]
			if below(5) < 2 {
				if expectedAccount(s, id) < 0 {
					checkNotBegun(t, s, id, now)
					s = checkAccountOpened(t, s, id, 1+below(3))
				}
				s = checkBegun(t, s, id, now)
				store, x, _ := impl.MakeAssertion(stores[id], secureAt("bank.com"), "bank.com", []int{3, 5}[below(2)], expectedChallengeValue(s, len(sittings)), true)
				if below(12) > 0 {
					stores[id] = store
				}
				sittings = append(sittings, sitting{account: id, begun: now, answer: x})
				continue
			}
			challenge := max(0, len(sittings)-1-below(1+below(20)))
			if challenge >= len(sittings) {
				continue
			}
			begun, answer := sittings[challenge], sittings[challenge].answer
			if below(4) > 0 {
				id = begun.account
			}
			if below(6) == 0 {
				answer = sittings[below(len(sittings))].answer
			}
			code, used := expectedLogin(s, id, challenge, now, answer)
			s = checkLogin(t, s, id, challenge, now, answer, code, used)
			codes[code]++
			if code == impl.LoginOK {
				accepted++
				if begun.over || begun.account != id || now > begun.begun+5 || len(sittings)-challenge > 16 {
					t.Errorf("at %d an answer to %+v is accepted for the account %d", now, begun, id)
				}
			}
			if code != impl.LoginNoAccount {
				sittings[challenge].over = true
			}
			checkValidSite(t, s, true)
		}
	}
	if accepted < 200 || codes[impl.LoginNoChallenge] == 0 || codes[impl.LoginMethod] == 0 || codes[impl.LoginAssertion] == 0 {
		t.Errorf("%d logins succeed, and the codes are %v", accepted, codes)
	}
}

// The site is a value: the one before the call still accepts the answer.
func TestFinishLoginOfTheSameSite(t *testing.T) {
	s := waitingSite()
	for range 3 {
		checkSignedIn(t, s, 4, 1, 10, answerTo(s, 4, 3, 1, 6))
		checkRefused(t, s, 4, 1, 10, answerTo(s, 4, 3, 1, 5), impl.AssertCounter)
		checkNoChallenge(t, s, 1, 1, 10, answerTo(s, 4, 3, 1, 6))
		checkBegun(t, s, 4, 10)
		checkRegistered(t, s, 4, 4, 77)
		checkAccountOpened(t, s, 5, impl.MethodKey)
	}
}

func TestEqualSites(t *testing.T) {
	sites := append(validSites(), invalidSites()...)
	for i, s := range sites {
		checkEqualSites(t, s, s, true)
		checkEqualSites(t, s, cloneSite(s), true)
		for _, other := range sites[i:min(i+20, len(sites))] {
			checkEqualSites(t, s, other, sameSite(s, other))
		}
	}
}

func TestEqualSitesOfNilAndEmpty(t *testing.T) {
	empty := impl.Site{Accounts: []impl.Account{}, Book: impl.ChallengeBook{Open: []impl.Challenge{}}, Logins: make([]int, 0, 4)}
	checkEqualSites(t, impl.Site{}, empty, true)
	checkEqualSites(t, siteOf(), impl.Site{Name: "bank.com", Accounts: make([]impl.Account, 0, 4), Book: impl.ChallengeBook{Seed: 9}, Logins: []int{}}, true)
	checkEqualSites(t, siteOf(impl.Account{Id: 4}), siteOf(impl.Account{Id: 4, Credentials: []impl.Credential{}}), true)
	checkEqualSites(t, impl.Site{}, impl.Site{Accounts: []impl.Account{{}}}, false)
	checkEqualSites(t, impl.Site{}, impl.Site{Logins: []int{0}}, false)
	checkEqualSites(t, impl.Site{}, impl.Site{Book: impl.ChallengeBook{Open: []impl.Challenge{{}}}}, false)
}

func TestEqualSitesThatDiffer(t *testing.T) {
	for _, s := range []impl.Site{siteOf(), siteOfSize(1), siteOfSize(3), waitingSite(), withLogins(waitingSite(), 1, 4, 1)} {
		for _, name := range []string{"", "bank.co", "bank.comm", "Bank.com", "shop.org"} {
			checkEqualSites(t, s, withName(s, name), false)
		}
		for _, n := range []int{1, -1, 1 << 32, impl.Modulus, math.MinInt} {
			checkEqualSites(t, s, withSeed(s, s.Book.Seed+n), false)
			checkEqualSites(t, s, withBook(s, bookOf(s.Book.Next+n, s.Book.Open...)), false)
			for i, a := range s.Accounts {
				checkEqualSites(t, s, withAccountAt(s, i, impl.Account{Id: a.Id + n, Minimum: a.Minimum, Credentials: a.Credentials}), false)
				checkEqualSites(t, s, withAccountAt(s, i, impl.Account{Id: a.Id, Minimum: a.Minimum + n, Credentials: a.Credentials}), false)
			}
			for i, c := range s.Book.Open {
				checkEqualSites(t, s, withBook(s, changedAt(s.Book, i, challengeOf(c.Id+n, c.Account, c.Until))), false)
				checkEqualSites(t, s, withBook(s, changedAt(s.Book, i, challengeOf(c.Id, c.Account+n, c.Until))), false)
				checkEqualSites(t, s, withBook(s, changedAt(s.Book, i, challengeOf(c.Id, c.Account, c.Until+n))), false)
			}
			for i, id := range s.Logins {
				checkEqualSites(t, s, withLogins(s, slices.Concat(s.Logins[:i], []int{id + n}, s.Logins[i+1:])...), false)
			}
		}
		for i, a := range s.Accounts {
			checkEqualSites(t, s, withAccounts(s, slices.Delete(slices.Clone(s.Accounts), i, i+1)...), false)
			for j, c := range a.Credentials {
				checkEqualSites(t, s, withAccountAt(s, i, withCredentialAt(a, j, credentialOf(c.Handle, c.Public, c.Counter+1, c.Cut))), false)
				checkEqualSites(t, s, withAccountAt(s, i, withCredentialAt(a, j, credentialOf(c.Handle, c.Public, c.Counter, !c.Cut))), false)
			}
		}
		checkEqualSites(t, s, withAccounts(s, append(slices.Clone(s.Accounts), impl.Account{})...), false)
		checkEqualSites(t, s, withBook(s, bookOf(s.Book.Next, append(slices.Clone(s.Book.Open), impl.Challenge{})...)), false)
		checkEqualSites(t, s, withLogins(s, append(slices.Clone(s.Logins), 0)...), false)
	}
	one, other := personal("bank.com", 1, 3), personal("bank.com", 4, 3)
	checkEqualSites(t, siteOf(one, other), siteOf(other, one), false)
	checkEqualSites(t, withLogins(siteOf(), 1, 4), withLogins(siteOf(), 4, 1), false)
}

// siteChanges are calls that return a site, with arguments of every kind; waitingSite meets every code of a login.
func siteChanges() map[string]func(impl.Site) impl.Site {
	changes := map[string]func(impl.Site) impl.Site{}
	for _, id := range []int{-1, 0, 1, 2, 4, 7, maxTime} {
		name := impl.FormatInt(id)
		for _, n := range []int{0, 3, 30} {
			with := name + " with " + impl.FormatInt(n)
			changes["OpenAccount of "+with] = func(s impl.Site) impl.Site {
				got, _ := impl.OpenAccount(s, id, n)
				return got
			}
			changes["RegisterKey of "+with] = func(s impl.Site) impl.Site {
				got, _ := impl.RegisterKey(s, id, n, 77)
				return got
			}
			changes["BeginLogin of "+with] = func(s impl.Site) impl.Site {
				got, _, _, _ := impl.BeginLogin(s, id, n-3)
				return got
			}
		}
		for challenge, counter := range map[int]int{0: 6, 1: 5, 2: 6, 9: 6} {
			answer := answerTo(waitingSite(), id, 3, challenge, counter)
			with := name + " with " + impl.FormatInt(challenge)
			changes["FinishLogin of "+with] = func(s impl.Site) impl.Site {
				got, _, _ := impl.FinishLogin(s, id, challenge, 10, answer)
				return got
			}
			changes["late FinishLogin of "+with] = func(s impl.Site) impl.Site {
				got, _, _ := impl.FinishLogin(s, id, challenge, 16, answer)
				return got
			}
		}
	}
	return changes
}

// changedSites are few of the valid and invalid sites, but each of another shape.
func changedSites() []impl.Site {
	list := []impl.Site{{}, siteOf(), waitingSite(), withLogins(waitingSite(), 1, 4), withSeed(waitingSite(), 0), peopleSite(0, 1, 2, 3, 4, 5, 6, 7), withBook(peopleSite(1), bookFrom(0, maxOpen)), withBook(siteOf(), invalidBooks()[0]), withAccounts(waitingSite(), peopleSite(4, 1).Accounts...)}
	for size := range maxAccounts + 3 {
		list = append(list, siteOfSize(size))
	}
	cut := waitingSite()
	for i, a := range cut.Accounts {
		cut.Accounts[i] = cutAt(a, 0, 1)
	}
	return append(list, cut)
}

// spareSite has spare capacity behind each of its lists.
func spareSite(s impl.Site) impl.Site {
	s.Accounts, _ = withSpare(impl.Account{Id: 66, Minimum: 3}, s.Accounts...)
	for i, a := range s.Accounts {
		s.Accounts[i].Credentials, _ = withSpare(credentialOf(66, 66, 66, true), a.Credentials...)
	}
	s.Book.Open, _ = withSpare(challengeOf(66, 66, 66), s.Book.Open...)
	s.Logins, _ = withSpare(66, s.Logins...)
	return s
}

// wholeSite is a copy that shows the spare capacity too.
func wholeSite(s impl.Site) impl.Site {
	s.Accounts = slices.Clone(s.Accounts[:cap(s.Accounts)])
	for i, a := range s.Accounts {
		s.Accounts[i].Credentials = slices.Clone(a.Credentials[:cap(a.Credentials)])
	}
	s.Book.Open = slices.Clone(s.Book.Open[:cap(s.Book.Open)])
	s.Logins = slices.Clone(s.Logins[:cap(s.Logins)])
	return s
}

// overwriteSite writes to all memory of the site, and to every list of credentials something else.
func overwriteSite(s impl.Site, n int) {
	accounts := s.Accounts[:cap(s.Accounts)]
	for i, a := range accounts {
		credentials := a.Credentials[:cap(a.Credentials)]
		for j := range credentials {
			credentials[j] = credentialOf(n, i, j, false)
		}
		accounts[i].Id = n + i
	}
	open := s.Book.Open[:cap(s.Book.Open)]
	for i := range open {
		open[i] = challengeOf(n, i, n)
	}
	logins := s.Logins[:cap(s.Logins)]
	for i := range logins {
		logins[i] = n
	}
}

// checkOwnCredentials expects what overwriteSite wrote: a list that another one shares memory with was overwritten again.
func checkOwnCredentials(t *testing.T, name string, s impl.Site, n int) {
	t.Helper()
	for i, a := range s.Accounts[:cap(s.Accounts)] {
		for j, c := range a.Credentials[:cap(a.Credentials)] {
			if c != credentialOf(n, i, j, false) {
				t.Errorf("two accounts of the result of %s share memory", name)
			}
		}
	}
}

func TestSitesAreApart(t *testing.T) {
	for name, change := range siteChanges() {
		for _, s := range changedSites() {
			given := spareSite(s)
			before := wholeSite(given)
			got := change(given)
			whole := wholeSite(got)
			if !sameSite(wholeSite(given), before) {
				t.Errorf("%s changed its site %+v to %+v", name, before, given)
			}
			overwriteSite(given, 1000)
			overwritten := wholeSite(given)
			if !sameSite(wholeSite(got), whole) {
				t.Errorf("the result of %s shares memory with its site", name)
			}
			overwriteSite(got, 2000)
			if !sameSite(wholeSite(given), overwritten) {
				t.Errorf("the result of %s shares memory with its site", name)
			}
			checkOwnCredentials(t, name, got, 2000)
		}
	}
}

func TestSiteQuestionsLeaveTheirSites(t *testing.T) {
	for _, s := range append(validSites(), changedSites()...) {
		given := spareSite(s)
		before := wholeSite(given)
		impl.IsValidSite(given)
		impl.FindAccount(given, 4)
		impl.EqualSites(given, given)
		if !sameSite(wholeSite(given), before) {
			t.Errorf("the site %+v became %+v", before, given)
		}
	}
}

// A second call with the same site would overwrite the first result, if both had written to the spare capacity.
func TestResultsOfOneSiteAreApart(t *testing.T) {
	s := spareSite(waitingSite())
	first, _ := impl.OpenAccount(s, 8, 1)
	second, _ := impl.OpenAccount(s, 9, 2)
	if first.Accounts[3].Id != 8 || second.Accounts[3].Id != 9 {
		t.Errorf("the accounts are %+v and %+v", first, second)
	}
	first, _ = impl.RegisterKey(s, 4, 8, 77)
	second, _ = impl.RegisterKey(s, 4, 9, 78)
	if first.Accounts[1].Credentials[2] != credentialOf(8, 77, 0, false) || second.Accounts[1].Credentials[2] != credentialOf(9, 78, 0, false) {
		t.Errorf("the keys are %+v and %+v", first, second)
	}
	first, _, _, _ = impl.BeginLogin(s, 4, 10)
	second, _, _, _ = impl.BeginLogin(s, 7, 11)
	if first.Book.Open[3] != challengeOf(3, 4, 15) || second.Book.Open[3] != challengeOf(3, 7, 16) {
		t.Errorf("the challenges are %+v and %+v", first, second)
	}
	first, _, _ = impl.FinishLogin(s, 4, 1, 10, answerTo(s, 4, 3, 1, 6))
	second, _, _ = impl.FinishLogin(s, 7, 2, 10, answerTo(s, 7, 3, 2, 6))
	if !slices.Equal(first.Logins, []int{4}) || !slices.Equal(second.Logins, []int{7}) {
		t.Errorf("the logins are %+v and %+v", first, second)
	}
}

func TestSiteFunctionsIgnoreSpareCapacity(t *testing.T) {
	s := spareSite(waitingSite())
	s.Accounts = append(s.Accounts, personal("bank.com", 66, 3))[:3]
	s.Book.Open = append(s.Book.Open, challengeOf(66, 4, 15))[:3]
	s.Logins = append(s.Logins, 4)[:0]
	checkValidSite(t, s, true)
	checkAccountAt(t, s, 66, -1)
	checkAccountOpened(t, s, 66, 1)
	checkAccountOpened(t, s, 8, 1)
	checkNotRegistered(t, s, 66, 8, 77)
	checkRegistered(t, s, 7, 66, 66)
	checkNotBegun(t, s, 66, 10)
	checkBegun(t, s, 7, 10)
	checkNoAccount(t, s, 66, 66, 10, answerTo(s, 66, 3, 66, 6))
	checkNoChallenge(t, s, 4, 66, 10, answerTo(s, 4, 3, 66, 6))
	checkSignedIn(t, s, 4, 1, 10, answerTo(s, 4, 3, 1, 6))
	checkEqualSites(t, s, waitingSite(), true)
}

// Between the calls with the same site there are others, of which nothing may be left, least of all a used challenge.
func TestSiteFunctionsKeepNoState(t *testing.T) {
	changes := siteChanges()
	for range 3 {
		s := waitingSite()
		checkNewSite(t, "bank.com", 9)
		checkValidSite(t, s, true)
		checkAccountOpened(t, s, 5, 3)
		checkAccountAt(t, s, 7, 2)
		checkRegistered(t, s, 4, 4, 77)
		checkBegun(t, s, 4, 10)
		checkSignedIn(t, s, 4, 1, 10, answerTo(s, 4, 3, 1, 6))
		checkRefused(t, s, 4, 1, 10, answerTo(s, 4, 3, 1, 5), impl.AssertCounter)
		checkEqualSites(t, s, waitingSite(), true)
		for _, other := range changedSites() {
			for _, change := range changes {
				change(other)
			}
		}
	}
}

func TestSiteFunctionsReturnForAllArguments(t *testing.T) {
	numbers := append(anyInts(), 2, 3, maxTime, maxTime+1, lastKey, impl.Modulus)
	for _, n := range numbers {
		for _, m := range numbers {
			a := impl.Account{Id: n, Minimum: m, Credentials: []impl.Credential{credentialOf(m, n, 5, false)}}
			b := impl.ChallengeBook{Seed: n, Next: m, Open: []impl.Challenge{challengeOf(n, m, 15)}}
			for _, s := range []impl.Site{siteOf(a), siteOf(impl.Account{Id: n, Minimum: 2}, impl.Account{Id: m, Minimum: 3}), {Name: "a.b", Book: b}, {Name: "a.b", Accounts: peopleSite(4).Accounts, Book: b}, withLogins(waitingSite(), n, m)} {
				checkAnySite(t, s, n, m)
			}
		}
	}
	for _, s := range []impl.Site{{Name: repeated("a.", 5000)}, {Name: "\xff\x00.\xff"}, siteOfSize(3000), withBook(waitingSite(), bookFrom(0, 3000)), siteOf(make([]impl.Account, 9)...), siteOf(accountOfSize(3000)), withLogins(siteOf(), make([]int, 5000)...)} {
		checkAnySite(t, s, 4, 1)
		checkAnySite(t, s, math.MaxInt, math.MinInt)
	}
}

// checkAnySite uses the two numbers for an Id, a method, a handle, a key, a challenge, a time and a seed.
func checkAnySite(t *testing.T, s impl.Site, n int, m int) {
	t.Helper()
	valid := expectedValidSite(s)
	checkNewSite(t, s.Name, n)
	checkValidSite(t, s, valid)
	for _, id := range []int{n, m, 4} {
		place := expectedAccount(s, id)
		checkAccountAt(t, s, id, place)
		if valid && place < 0 && len(s.Accounts) < 8 && id >= 0 && id <= 1000000 && m >= 1 && m <= 3 {
			checkAccountOpened(t, s, id, m)
		} else {
			checkAccountNotOpened(t, s, id, m)
		}
		if valid && place >= 0 && len(s.Accounts[place].Credentials) < 8 && expectedValidAccount(withAdded(s.Accounts[place], n, m)) {
			checkRegistered(t, s, id, n, m)
		} else {
			checkNotRegistered(t, s, id, n, m)
		}
		if valid && place >= 0 && s.Book.Next < 1000000 && m >= 0 && m <= 1000000 {
			checkBegun(t, s, id, m)
		} else {
			checkNotBegun(t, s, id, m)
		}
		for _, challenge := range []int{n, m, 1} {
			checkLoginAsExpected(t, s, id, challenge, m, impl.Assertion{Site: s.Name, Origin: "https://bank.com", Challenge: n, Handle: m, Present: true, Counter: n, Signature: m})
			checkLoginAsExpected(t, s, id, challenge, 10, answerTo(siteOf(), 4, 3, challenge, n))
		}
	}
	checkEqualSites(t, s, cloneSite(s), true)
	checkEqualSites(t, s, withLogins(s, n, m), slices.Equal(s.Logins, []int{n, m}))
}
