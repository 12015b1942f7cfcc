package tests

import (
	"math"
	"slices"
	"strings"
	"testing"

	"loop.example/g00581/impl"
)

const maxTabs = 8

func tabOf(o impl.Origin, top impl.Origin) impl.Tab {
	return impl.Tab{Origin: o, Top: top}
}

func ownTab(o impl.Origin) impl.Tab {
	return tabOf(o, o)
}

// browserOf has the store that makes bankAssertion.
func browserOf(tabs ...impl.Tab) impl.Browser {
	return impl.Browser{Store: storeOf(77, 5), Tabs: tabs}
}

func cloneBrowser(b impl.Browser) impl.Browser {
	b.Tabs = slices.Clone(b.Tabs)
	return b
}

func withTabAt(b impl.Browser, place int, changed impl.Tab) impl.Browser {
	b = cloneBrowser(b)
	b.Tabs[place] = changed
	return b
}

func withStore(b impl.Browser, s impl.KeyStore) impl.Browser {
	b = cloneBrowser(b)
	b.Store = s
	return b
}

func withAsked(b impl.Browser, asked int) impl.Browser {
	b = cloneBrowser(b)
	b.Asked = asked
	return b
}

func portAt(o impl.Origin, port int) impl.Origin {
	o.Port = port
	return o
}

// somePages are origins of bank.com, of its subdomains, and of other sites; some differ in the scheme or the port alone.
func somePages() []impl.Origin {
	list := []impl.Origin{
		portAt(secureAt("bank.com"), 8443), portAt(secureAt("bank.com"), 80), portAt(secureAt("www.bank.com"), 65535), portAt(plainAt("bank.com"), 443), portAt(plainAt("www.bank.com"), 8443),
		plainAt("bank.com"), plainAt("www.bank.com"), plainAt("shop.org"), plainAt("localhost"),
	}
	for _, host := range []string{"bank.com", "www.bank.com", "a.www.bank.com", "mail.bank.com", "shop.org", "www.shop.org", "evil.net", "bank.com.evil.net", "evilbank.com", "bank.com.bank.com", "com", "bank", "localhost", "co.uk", "bank.co.uk", "shop.co.uk", "10.0.0.1", "9.9.0.1", hostOfLength(60)} {
		list = append(list, secureAt(host))
	}
	return list
}

// askedSites are sites that some of somePages may use, those that none may, and what is no site.
func askedSites() []string {
	return []string{
		"bank.com", "www.bank.com", "a.www.bank.com", "mail.bank.com", "b.bank.com", "shop.org", "www.shop.org", "evil.net", "com.evil.net", "bank.com.evil.net", "evilbank.com", "bank.com.bank.com", "com.bank.com", "co.uk", "bank.co.uk", "0.1", "0.0.1", hostOfLength(60),
		"ank.com", "bank.co", "www.shop.com", "", "com", "bank", "localhost", "m", ".", ".com", ".bank.com", "bank.com.", "bank..com", "Bank.com", "https://bank.com", "bank.com:443", "bank.com ", "b\u00e4.com", hostOfLength(61),
	}
}

// brokenTabs have an origin that is not valid, as no OpenTab makes one.
func brokenTabs() []impl.Tab {
	list := []impl.Tab{{}}
	for _, o := range notOrigins() {
		list = append(list, ownTab(o), tabOf(o, secureAt("bank.com")), tabOf(secureAt("bank.com"), o))
	}
	return list
}

// browserOfSize has pages of their own and pages within pages in turn, all of which may ask for bank.com.
func browserOfSize(size int) impl.Browser {
	b := withAsked(browserOf(), 4)
	for i := range size {
		o, top := secureAt("www.bank.com"), secureAt("www.bank.com")
		if i%2 == 1 {
			top = portAt(secureAt("bank.com"), 1+i)
		}
		b.Tabs = append(b.Tabs, tabOf(portAt(o, 1000+i), top))
	}
	return b
}

func expectedSameSite(a impl.Origin, b impl.Origin) bool {
	return expectedValid(a) && expectedValid(b) && a.Secure == b.Secure && expectedRegistrable(a.Host) == expectedRegistrable(b.Host)
}

func expectedCanAsk(b impl.Browser, tab int, site string) bool {
	for i, shown := range b.Tabs {
		if i == tab {
			return expectedMayUse(shown.Origin, site) && expectedSameSite(shown.Origin, shown.Top)
		}
	}
	return false
}

func sameBrowser(a impl.Browser, b impl.Browser) bool {
	return a.Store == b.Store && slices.Equal(a.Tabs, b.Tabs) && a.Asked == b.Asked
}

func checkTabOpened(t *testing.T, b impl.Browser, o impl.Origin, top impl.Origin) impl.Browser {
	t.Helper()
	want := cloneBrowser(b)
	want.Tabs = append(want.Tabs, tabOf(o, top))
	got, ok := impl.OpenTab(b, o, top)
	if !sameBrowser(got, want) || !ok {
		t.Errorf("OpenTab(%+v, %+v, %+v) = %+v, %v, want %+v, true", b, o, top, got, ok, want)
	}
	return got
}

func checkTabNotOpened(t *testing.T, b impl.Browser, o impl.Origin, top impl.Origin) {
	t.Helper()
	if got, ok := impl.OpenTab(b, o, top); !sameBrowser(got, b) || ok {
		t.Errorf("OpenTab(%+v, %+v, %+v) = %+v, %v", b, o, top, got, ok)
	}
}

func checkCanAsk(t *testing.T, b impl.Browser, tab int, site string, want bool) {
	t.Helper()
	if got := impl.CanAsk(b, tab, site); got != want {
		t.Errorf("CanAsk(%+v, %d, %q) = %v", b, tab, site, got)
	}
}

func checkAsserted(t *testing.T, b impl.Browser, tab int, want impl.Assertion) impl.Browser {
	t.Helper()
	after := withAsked(b, b.Asked+1)
	after.Store.Counter++
	got, a, ok := impl.AskAssertion(b, tab, want.Site, want.Handle, want.Challenge, true)
	if !sameBrowser(got, after) || a != want || !ok {
		t.Errorf("AskAssertion(%+v, %d, %q, %d, %d, true) = %+v, %+v, %v, want %+v, %+v, true", b, tab, want.Site, want.Handle, want.Challenge, got, a, ok, after, want)
	}
	return got
}

func checkKeyGiven(t *testing.T, b impl.Browser, tab int, site string, handle int, want int) impl.Browser {
	t.Helper()
	after := withAsked(b, b.Asked+1)
	got, public, ok := impl.AskRegistration(b, tab, site, handle, true)
	if !sameBrowser(got, after) || public != want || !ok {
		t.Errorf("AskRegistration(%+v, %d, %q, %d, true) = %+v, %d, %v, want %+v, %d, true", b, tab, site, handle, got, public, ok, after, want)
	}
	return got
}

// checkNothingAsserted expects the browser afterwards, in which the question may be counted.
func checkNothingAsserted(t *testing.T, b impl.Browser, tab int, site string, n int, consent bool, after impl.Browser) {
	t.Helper()
	if got, a, ok := impl.AskAssertion(b, tab, site, n, 99, consent); !sameBrowser(got, after) || a != (impl.Assertion{}) || ok {
		t.Errorf("AskAssertion(%+v, %d, %q, %d, 99, %v) = %+v, %+v, %v", b, tab, site, n, consent, got, a, ok)
	}
	if got, a, ok := impl.AskAssertion(b, tab, site, 3, n, consent); !sameBrowser(got, after) || a != (impl.Assertion{}) || ok {
		t.Errorf("AskAssertion(%+v, %d, %q, 3, %d, %v) = %+v, %+v, %v", b, tab, site, n, consent, got, a, ok)
	}
}

func checkNoKeyGiven(t *testing.T, b impl.Browser, tab int, site string, handle int, consent bool, after impl.Browser) {
	t.Helper()
	if got, public, ok := impl.AskRegistration(b, tab, site, handle, consent); !sameBrowser(got, after) || public != 0 || ok {
		t.Errorf("AskRegistration(%+v, %d, %q, %d, %v) = %+v, %d, %v", b, tab, site, handle, consent, got, public, ok)
	}
}

// checkNotAsked expects that the person sees no question, and the page gets nothing.
func checkNotAsked(t *testing.T, b impl.Browser, tab int, site string) {
	t.Helper()
	checkCanAsk(t, b, tab, site, false)
	for _, consent := range []bool{false, true} {
		checkNothingAsserted(t, b, tab, site, 3, consent, b)
		checkNoKeyGiven(t, b, tab, site, 3, consent, b)
	}
}

// checkAllAsked asks for a key and for an assertion, with and without consent, and expects what the chapter defines.
func checkAllAsked(t *testing.T, b impl.Browser, tab int, site string) {
	t.Helper()
	if !expectedCanAsk(b, tab, site) {
		checkNotAsked(t, b, tab, site)
		return
	}
	checkCanAsk(t, b, tab, site, true)
	asked := withAsked(b, b.Asked+1)
	checkNothingAsserted(t, b, tab, site, 3, false, asked)
	checkNoKeyGiven(t, b, tab, site, 3, false, asked)
	if !expectedValidStore(b.Store) {
		checkNothingAsserted(t, b, tab, site, 3, true, asked)
		checkNoKeyGiven(t, b, tab, site, 3, true, asked)
		return
	}
	checkKeyGiven(t, b, tab, site, 3, expectedPublic(expectedSitePrivate(b.Store.Seed, site, 3)))
	if b.Store.Counter == maxCounter {
		checkNothingAsserted(t, b, tab, site, 3, true, asked)
		return
	}
	checkAsserted(t, b, tab, expectedAssertion(b.Store, b.Tabs[tab].Origin, site, 3, 99, true))
}

func checkNavigated(t *testing.T, b impl.Browser, tab int, o impl.Origin, top impl.Origin) impl.Browser {
	t.Helper()
	want := withTabAt(b, tab, tabOf(o, top))
	got, ok := impl.NavigateTab(b, tab, o)
	if !sameBrowser(got, want) || !ok {
		t.Errorf("NavigateTab(%+v, %d, %+v) = %+v, %v, want %+v, true", b, tab, o, got, ok, want)
	}
	return got
}

func checkNotNavigated(t *testing.T, b impl.Browser, tab int, o impl.Origin) {
	t.Helper()
	if got, ok := impl.NavigateTab(b, tab, o); !sameBrowser(got, b) || ok {
		t.Errorf("NavigateTab(%+v, %d, %+v) = %+v, %v", b, tab, o, got, ok)
	}
}

func checkEqualBrowsers(t *testing.T, a impl.Browser, b impl.Browser, want bool) {
	t.Helper()
	if got := impl.EqualBrowsers(a, b); got != want {
		t.Errorf("EqualBrowsers(%+v, %+v) = %v", a, b, got)
	}
	if got := impl.EqualBrowsers(b, a); got != want {
		t.Errorf("EqualBrowsers(%+v, %+v) = %v", b, a, got)
	}
}

func TestOpenTab(t *testing.T) {
	bank, www, evil := secureAt("bank.com"), secureAt("www.bank.com"), secureAt("evil.net")
	b := impl.Browser{Store: storeOf(77, 5), Asked: 3}
	for i, shown := range []impl.Tab{{Origin: bank, Top: bank}, {Origin: bank, Top: www}, {Origin: www, Top: bank}, {Origin: bank, Top: evil}, {Origin: evil, Top: bank}, {Origin: plainAt("bank.com"), Top: bank}, {Origin: secureAt("localhost"), Top: plainAt("com")}} {
		got, ok := impl.OpenTab(b, shown.Origin, shown.Top)
		if !ok || len(got.Tabs) != i+1 || got.Tabs[i] != shown || !slices.Equal(got.Tabs[:i], b.Tabs) || got.Store != storeOf(77, 5) || got.Asked != 3 {
			t.Errorf("opening %+v in %+v gives %+v, %v", shown, b, got, ok)
		}
		b = got
	}
}

func TestOpenTabUpToTheLimit(t *testing.T) {
	for size := range maxTabs {
		checkTabOpened(t, browserOfSize(size), secureAt("bank.com"), secureAt("evil.net"))
	}
	b := browserOf()
	for i := range maxTabs {
		b = checkTabOpened(t, b, somePages()[i], somePages()[i+3])
	}
	if len(b.Tabs) != 8 {
		t.Errorf("the browser is %+v", b)
	}
	checkTabNotOpened(t, b, secureAt("bank.com"), secureAt("bank.com"))
	for _, size := range []int{8, 9, 10, 16, 100} {
		checkTabNotOpened(t, browserOfSize(size), secureAt("bank.com"), secureAt("bank.com"))
		checkTabNotOpened(t, browserOfSize(size), impl.Origin{}, secureAt("bank.com"))
	}
}

func TestOpenTabOfEveryOrigin(t *testing.T) {
	for _, b := range []impl.Browser{browserOf(), browserOfSize(2), browserOfSize(7)} {
		for _, o := range someOrigins() {
			checkTabOpened(t, b, o, o)
			checkTabOpened(t, b, o, secureAt("bank.com"))
			checkTabOpened(t, b, secureAt("bank.com"), o)
		}
	}
	for _, o := range somePages() {
		for _, top := range somePages() {
			checkTabOpened(t, browserOfSize(3), o, top)
		}
	}
}

func TestOpenTabThatIsNotValid(t *testing.T) {
	for _, b := range []impl.Browser{browserOf(), browserOfSize(2), browserOfSize(7), browserOfSize(8)} {
		for _, o := range notOrigins() {
			checkTabNotOpened(t, b, o, secureAt("bank.com"))
			checkTabNotOpened(t, b, secureAt("bank.com"), o)
			checkTabNotOpened(t, b, o, o)
		}
	}
	for port, valid := range map[int]bool{-1: false, 0: false, 1: true, 65535: true, 65536: false} {
		for _, shown := range []impl.Tab{tabOf(portAt(secureAt("bank.com"), port), secureAt("bank.com")), tabOf(secureAt("bank.com"), portAt(plainAt("bank.com"), port))} {
			if valid {
				checkTabOpened(t, browserOfSize(1), shown.Origin, shown.Top)
			} else {
				checkTabNotOpened(t, browserOfSize(1), shown.Origin, shown.Top)
			}
		}
	}
}

// A browser has no rules but those that the functions name: what is in it already does not matter.
func TestOpenTabBesideAnything(t *testing.T) {
	for _, broken := range brokenTabs() {
		checkTabOpened(t, browserOf(broken, broken), secureAt("bank.com"), secureAt("evil.net"))
	}
	for _, s := range invalidStores() {
		checkTabOpened(t, withStore(browserOfSize(1), s), secureAt("bank.com"), secureAt("bank.com"))
		checkTabNotOpened(t, withStore(browserOfSize(8), s), secureAt("bank.com"), secureAt("bank.com"))
	}
	for _, n := range anyInts() {
		checkTabOpened(t, withAsked(browserOfSize(7), n), secureAt("bank.com"), secureAt("bank.com"))
		checkTabNotOpened(t, withAsked(browserOfSize(7), n), secureAt("bank.com"), secureAt("bank_com"))
	}
}

func TestCanAsk(t *testing.T) {
	bank, www, mail, evil := secureAt("bank.com"), secureAt("www.bank.com"), secureAt("mail.bank.com"), secureAt("evil.net")
	b := browserOf(ownTab(bank), ownTab(www), ownTab(plainAt("bank.com")), tabOf(www, bank), tabOf(bank, www), tabOf(mail, www), tabOf(bank, evil), tabOf(evil, bank), ownTab(evil))
	for site, want := range map[string][]bool{
		"bank.com":      {true, true, false, true, true, true, false, false, false},
		"www.bank.com":  {false, true, false, true, false, false, false, false, false},
		"mail.bank.com": {false, false, false, false, false, true, false, false, false},
		"evil.net":      {false, false, false, false, false, false, false, false, true},
		"shop.org":      {false, false, false, false, false, false, false, false, false},
		"com":           {false, false, false, false, false, false, false, false, false},
		"":              {false, false, false, false, false, false, false, false, false},
	} {
		for tab := range b.Tabs {
			checkCanAsk(t, b, tab, site, want[tab])
		}
	}
}

func TestCanAskOfEveryPageWithinEveryPage(t *testing.T) {
	asking := 0
	for _, o := range somePages() {
		for _, top := range somePages() {
			for _, site := range askedSites() {
				checkAllAsked(t, browserOf(tabOf(o, top)), 0, site)
				if expectedCanAsk(browserOf(tabOf(o, top)), 0, site) {
					asking++
				}
			}
		}
	}
	if asking < 100 {
		t.Errorf("only %d pages may ask", asking)
	}
}

func TestCanAskOfEveryOrigin(t *testing.T) {
	for _, o := range someOrigins() {
		for _, site := range append(someHosts(), expectedRegistrable(o.Host)) {
			b := browserOf(ownTab(o))
			checkCanAsk(t, b, 0, site, expectedMayUse(o, site))
			b.Tabs[0].Top = secureAt("bank.com")
			checkCanAsk(t, b, 0, site, expectedCanAsk(b, 0, site))
		}
	}
}

// Neither a page of the site within a page of another one nor the other way round gets a question to the person.
func TestAskFromPagesWithinPages(t *testing.T) {
	for _, host := range []string{"bank.com", "www.bank.com", "a.b.bank.com"} {
		for _, other := range []string{"evil.net", "bank.com.evil.net", "evilbank.com", "bank.org", "com", "bank", "localhost", "shop.org", "www.evil.net"} {
			checkNotAsked(t, browserOf(tabOf(secureAt(host), secureAt(other))), 0, "bank.com")
			checkNotAsked(t, browserOf(tabOf(secureAt(other), secureAt(host))), 0, "bank.com")
			checkNotAsked(t, browserOf(tabOf(secureAt(other), secureAt(host))), 0, other)
		}
	}
}

// The page in the tab says which site is asked for, and the one around it only has to be of the same registrable site.
func TestAskFromSubdomains(t *testing.T) {
	bank, www, mail := secureAt("bank.com"), secureAt("www.bank.com"), secureAt("mail.bank.com")
	for _, c := range []struct {
		o     impl.Origin
		top   impl.Origin
		sites []string
	}{
		{bank, bank, []string{"bank.com"}}, {bank, www, []string{"bank.com"}}, {bank, mail, []string{"bank.com"}},
		{www, bank, []string{"bank.com", "www.bank.com"}}, {www, www, []string{"bank.com", "www.bank.com"}}, {www, mail, []string{"bank.com", "www.bank.com"}},
		{mail, www, []string{"bank.com", "mail.bank.com"}}, {secureAt("a.www.bank.com"), mail, []string{"bank.com", "www.bank.com", "a.www.bank.com"}},
	} {
		b := browserOf(tabOf(c.o, c.top))
		for _, site := range askedSites() {
			checkCanAsk(t, b, 0, site, slices.Contains(c.sites, site))
			checkAllAsked(t, b, 0, site)
		}
		_, a, _ := impl.AskAssertion(b, 0, "bank.com", 3, 99, true)
		if a.Origin != expectedText(c.o) {
			t.Errorf("the assertion of a page of %+v within %+v is of %q", c.o, c.top, a.Origin)
		}
	}
}

// The port does not part two sites, and the scheme does: no page of a scheme without security may use keys.
func TestAskOfOtherSchemesAndPorts(t *testing.T) {
	for _, host := range []string{"bank.com", "www.bank.com"} {
		for _, port := range []int{1, 80, 443, 8443, 65535} {
			for _, topPort := range []int{1, 80, 443, 8443, 65535} {
				o, top := portAt(secureAt(host), port), portAt(secureAt("bank.com"), topPort)
				plain, plainTop := portAt(plainAt(host), port), portAt(plainAt("bank.com"), topPort)
				checkCanAsk(t, browserOf(tabOf(o, top)), 0, "bank.com", true)
				checkAllAsked(t, browserOf(tabOf(o, top)), 0, "bank.com")
				checkNotAsked(t, browserOf(tabOf(o, plainTop)), 0, "bank.com")
				checkNotAsked(t, browserOf(tabOf(plain, top)), 0, "bank.com")
				checkNotAsked(t, browserOf(tabOf(plain, plainTop)), 0, "bank.com")
				checkNotAsked(t, browserOf(ownTab(plain)), 0, "bank.com")
			}
		}
	}
}

func TestAskForNoSite(t *testing.T) {
	for _, site := range append(notHosts(), "com", "bank", "localhost", "m", ".com", "www..bank.com", hostOfLength(61)) {
		for _, host := range []string{"bank.com", "www.bank.com", "com", "localhost", site, "www." + site} {
			checkNotAsked(t, browserOf(ownTab(secureAt(host)), tabOf(secureAt(host), secureAt("bank.com"))), 0, site)
			checkNotAsked(t, browserOf(ownTab(secureAt(host)), tabOf(secureAt(host), secureAt("bank.com"))), 1, site)
		}
	}
}

func TestAskInEachTab(t *testing.T) {
	for _, size := range []int{0, 1, 2, 7, 8, 9, 30} {
		b := browserOfSize(size)
		for tab := range size {
			checkCanAsk(t, b, tab, "bank.com", true)
			checkAllAsked(t, b, tab, "bank.com")
			checkNotAsked(t, withTabAt(b, tab, ownTab(secureAt("evil.net"))), tab, "bank.com")
			checkAllAsked(t, withTabAt(b, (tab+1)%size, tabOf(secureAt("bank.com"), secureAt("evil.net"))), tab, "bank.com")
		}
		for _, tab := range []int{-1, -2, -size - 1, size, size + 1, 256, 1 << 32, 1<<63 - 1, math.MinInt} {
			if tab < 0 || tab >= size {
				checkNotAsked(t, b, tab, "bank.com")
			}
		}
	}
	checkNotAsked(t, impl.Browser{}, 0, "")
	checkNotAsked(t, impl.Browser{}, -1, "bank.com")
}

func TestAskInATabThatIsNotValid(t *testing.T) {
	for _, broken := range brokenTabs() {
		for _, site := range []string{"bank.com", broken.Origin.Host, broken.Top.Host, ""} {
			checkNotAsked(t, browserOf(ownTab(secureAt("bank.com")), broken), 1, site)
		}
		checkAllAsked(t, browserOf(ownTab(secureAt("bank.com")), broken), 0, "bank.com")
	}
	for _, port := range badPorts() {
		www := portAt(secureAt("www.bank.com"), port)
		for _, shown := range []impl.Tab{ownTab(www), tabOf(www, secureAt("bank.com")), tabOf(secureAt("bank.com"), www)} {
			checkNotAsked(t, browserOf(shown), 0, "bank.com")
		}
	}
}

func TestAskAssertion(t *testing.T) {
	b := browserOf(tabOf(secureAt("www.bank.com"), secureAt("bank.com")))
	got, a, ok := impl.AskAssertion(b, 0, "bank.com", 3, 99, true)
	if want := (impl.Browser{Store: storeOf(77, 6), Tabs: b.Tabs, Asked: 1}); !sameBrowser(got, want) || a != bankAssertion() || !ok {
		t.Errorf("with consent the page gets %+v, %v and leaves %+v", a, ok, got)
	}
	checkAtBank(t, a, impl.AssertOK)
	got, a, ok = impl.AskAssertion(b, 0, "bank.com", 3, 99, false)
	if want := (impl.Browser{Store: storeOf(77, 5), Tabs: b.Tabs, Asked: 1}); !sameBrowser(got, want) || a != (impl.Assertion{}) || ok {
		t.Errorf("without consent the page gets %+v, %v and leaves %+v", a, ok, got)
	}
	b.Tabs[0].Top = secureAt("evil.net")
	got, a, ok = impl.AskAssertion(b, 0, "bank.com", 3, 99, true)
	if !sameBrowser(got, b) || a != (impl.Assertion{}) || ok {
		t.Errorf("within another page the page gets %+v, %v and leaves %+v", a, ok, got)
	}
}

// The site of the assertion accepts it, and the store is the one that MakeAssertion gives.
func TestAskAssertionThatIsChecked(t *testing.T) {
	for _, s := range []impl.KeyStore{storeOf(77, 5), storeOf(78, 0), storeFrom(9, maxCounter, lastKey), storeOf(1, maxCounter-1)} {
		for _, text := range siteOrigins() {
			o := originOf(t, text)
			for _, n := range someHandles() {
				b := withStore(browserOf(ownTab(plainAt("a")), tabOf(o, secureAt("x.bank.com"))), s)
				for _, c := range [][2]int{{n, 99}, {3, n}} {
					handle, challenge := c[0], c[1]
					next, made, _ := impl.MakeAssertion(s, o, "bank.com", handle, challenge, true)
					after := checkAsserted(t, b, 1, made)
					checkCode(t, impl.SitePublic(s, "bank.com", handle), made, "bank.com", challenge, s.Counter, impl.AssertOK)
					checkCode(t, impl.SitePublic(s, "bank.com", handle), made, "bank.com", challenge, after.Store.Counter, impl.AssertCounter)
					if after.Store != next || made.Origin != text || !made.Present {
						t.Errorf("after %+v the store is %+v, want %+v", made, after.Store, next)
					}
				}
			}
		}
	}
}

func TestAskRegistration(t *testing.T) {
	b := browserOf(tabOf(secureAt("www.bank.com"), secureAt("bank.com")))
	got, public, ok := impl.AskRegistration(b, 0, "bank.com", 3, true)
	if want := (impl.Browser{Store: storeOf(77, 5), Tabs: b.Tabs, Asked: 1}); !sameBrowser(got, want) || public != bankPublic || !ok {
		t.Errorf("with consent the page gets %d, %v and leaves %+v", public, ok, got)
	}
	got, public, ok = impl.AskRegistration(b, 0, "bank.com", 3, false)
	if want := (impl.Browser{Store: storeOf(77, 5), Tabs: b.Tabs, Asked: 1}); !sameBrowser(got, want) || public != 0 || ok {
		t.Errorf("without consent the page gets %d, %v and leaves %+v", public, ok, got)
	}
	b.Tabs[0].Top = secureAt("evil.net")
	got, public, ok = impl.AskRegistration(b, 0, "bank.com", 3, true)
	if !sameBrowser(got, b) || public != 0 || ok {
		t.Errorf("within another page the page gets %d, %v and leaves %+v", public, ok, got)
	}
}

func TestAskRegistrationFollowsItsDefinition(t *testing.T) {
	for _, s := range validStores() {
		for _, site := range []string{"bank.com", "www.bank.com"} {
			for _, handle := range someHandles() {
				b := withStore(browserOf(ownTab(secureAt("www.bank.com"))), s)
				checkKeyGiven(t, b, 0, site, handle, expectedPublic(expectedSitePrivate(s.Seed, site, handle)))
				checkKeyGiven(t, b, 0, site, handle, impl.SitePublic(s, site, handle))
				checkNoKeyGiven(t, b, 0, site, handle, false, withAsked(b, 1))
			}
		}
	}
}

// A person who registers and signs in with a browser is known to the site, and to no other one.
func TestSignInWithABrowser(t *testing.T) {
	b := browserOf(ownTab(secureAt("www.bank.com")), ownTab(secureAt("shop.org")))
	s := siteOf(impl.Account{Id: 4, Minimum: 3})
	b, public, _ := impl.AskRegistration(b, 0, "bank.com", 3, true)
	s = checkRegistered(t, s, 4, 3, public)
	for i := range 10 {
		begun := checkBegun(t, s, 4, 10)
		value := expectedChallengeValue(begun, i)
		refused, a, _ := impl.AskAssertion(b, 0, "bank.com", 3, value, false)
		checkRefused(t, begun, 4, i, 10, a, impl.AssertSignature)
		asked, a, ok := impl.AskAssertion(b, 0, "bank.com", 3, value, true)
		s = checkSignedIn(t, begun, 4, i, 10, a)
		checkNotAsked(t, asked, 1, "bank.com")
		if !ok || asked.Asked != i+2 || refused.Asked != i+2 {
			t.Errorf("after %d logins the browsers are %+v and %+v", i+1, asked, refused)
		}
		b = asked
	}
	if !slices.Equal(s.Logins, slices.Repeat([]int{4}, 10)) {
		t.Errorf("the logins are %v", s.Logins)
	}
}

// Each question counts, and each assertion in the store; a page that cannot ask does neither.
func TestAskInARow(t *testing.T) {
	www, evil := secureAt("www.bank.com"), secureAt("evil.net")
	b := browserOf(ownTab(www), tabOf(www, evil), ownTab(evil), tabOf(secureAt("shop.org"), secureAt("www.shop.org")))
	asked, counter := 0, 5
	for i := range 60 {
		tab, site, consent := []int{0, 3}[i%2], []string{"bank.com", "shop.org"}[i%2], i%3 > 0
		checkAllAsked(t, b, tab, site)
		if i%5 < 3 {
			b, _, _ = impl.AskAssertion(b, tab, site, i%4, 99-i, consent)
			if consent {
				counter++
			}
		} else {
			b, _, _ = impl.AskRegistration(b, tab, site, i%4, consent)
		}
		asked++
		for _, tab := range []int{-1, 1, 2, 4} {
			b, _, _ = impl.AskAssertion(b, tab, "bank.com", 3, 99, true)
			b, _, _ = impl.AskRegistration(b, tab, "bank.com", 3, true)
		}
		if b.Asked != asked || b.Store != storeOf(77, counter) || len(b.Tabs) != 4 {
			t.Errorf("after %d questions the browser is %+v", asked, b)
		}
	}
}

// The counter of the questions has no limit but that of an int.
func TestAskAtEveryCount(t *testing.T) {
	for _, asked := range []int{0, 1, -1, -2, 41, maxCounter, impl.Modulus, math.MaxInt - 1, math.MaxInt, math.MinInt, math.MinInt + 1} {
		b := withAsked(browserOf(ownTab(secureAt("www.bank.com")), tabOf(secureAt("bank.com"), secureAt("evil.net"))), asked)
		checkAllAsked(t, b, 0, "bank.com")
		checkNotAsked(t, b, 1, "bank.com")
	}
	wrapped, _, ok := impl.AskAssertion(withAsked(browserOf(ownTab(secureAt("bank.com"))), math.MaxInt), 0, "bank.com", 3, 99, true)
	if wrapped.Asked != math.MinInt || !ok {
		t.Errorf("after the greatest count the browser is %+v, %v", wrapped, ok)
	}
	wrapped, _, ok = impl.AskRegistration(withAsked(browserOf(ownTab(secureAt("bank.com"))), -1), 0, "bank.com", 3, true)
	if wrapped.Asked != 0 || !ok {
		t.Errorf("after the count -1 the browser is %+v, %v", wrapped, ok)
	}
}

// The person is asked before the store is looked at.
func TestAskWithAnInvalidStore(t *testing.T) {
	for _, s := range invalidStores() {
		b := withStore(browserOf(ownTab(secureAt("www.bank.com")), tabOf(secureAt("bank.com"), secureAt("evil.net"))), s)
		for _, handle := range []int{0, 3, maxCounter, -1} {
			for _, consent := range []bool{false, true} {
				checkNothingAsserted(t, b, 0, "bank.com", handle, consent, withAsked(b, 1))
				checkNoKeyGiven(t, b, 0, "bank.com", handle, consent, withAsked(b, 1))
			}
		}
		checkNotAsked(t, b, 1, "bank.com")
	}
}

// A store at its greatest counter signs no more, but has its keys still.
func TestAskUpToTheLastCounter(t *testing.T) {
	for _, valid := range validStores() {
		s := valid
		s.Counter = maxCounter - 1
		b := withStore(browserOf(ownTab(secureAt("bank.com"))), s)
		b = checkAsserted(t, b, 0, expectedAssertion(s, secureAt("bank.com"), "bank.com", 3, 99, true))
		for range 2 {
			checkNothingAsserted(t, b, 0, "bank.com", 3, true, withAsked(b, b.Asked+1))
			b, _, _ = impl.AskAssertion(b, 0, "bank.com", 3, 99, true)
			b = checkKeyGiven(t, b, 0, "bank.com", 3, impl.SitePublic(s, "bank.com", 3))
		}
		if b.Store.Counter != maxCounter || b.Asked != 5 {
			t.Errorf("the browser at the limit became %+v", b)
		}
	}
}

func TestNavigateTab(t *testing.T) {
	bank, www, evil := secureAt("bank.com"), secureAt("www.bank.com"), secureAt("evil.net")
	b := withAsked(browserOf(ownTab(bank), tabOf(bank, www), tabOf(bank, evil)), 3)
	for _, c := range []struct {
		tab    int
		to     impl.Origin
		want   impl.Tab
		before bool
		after  bool
	}{
		{0, www, impl.Tab{Origin: www, Top: www}, true, true}, {0, evil, impl.Tab{Origin: evil, Top: evil}, true, false}, {0, bank, impl.Tab{Origin: bank, Top: bank}, true, true}, {0, plainAt("bank.com"), impl.Tab{Origin: plainAt("bank.com"), Top: plainAt("bank.com")}, true, false},
		{1, www, impl.Tab{Origin: www, Top: www}, true, true}, {1, evil, impl.Tab{Origin: evil, Top: www}, true, false}, {1, bank, impl.Tab{Origin: bank, Top: www}, true, true},
		{2, www, impl.Tab{Origin: www, Top: evil}, false, false}, {2, evil, impl.Tab{Origin: evil, Top: evil}, false, false}, {2, bank, impl.Tab{Origin: bank, Top: evil}, false, false},
	} {
		want := withTabAt(b, c.tab, c.want)
		got, ok := impl.NavigateTab(b, c.tab, c.to)
		if !sameBrowser(got, want) || !ok {
			t.Errorf("navigating %d to %+v gives %+v, %v", c.tab, c.to, got, ok)
		}
		checkCanAsk(t, b, c.tab, "bank.com", c.before)
		checkCanAsk(t, got, c.tab, "bank.com", c.after)
		checkAllAsked(t, got, c.tab, "bank.com")
	}
}

func TestNavigateTabFollowsItsDefinition(t *testing.T) {
	for _, o := range somePages() {
		for _, top := range somePages() {
			for _, to := range somePages() {
				want := top
				if o == top {
					want = to
				}
				checkNavigated(t, browserOf(ownTab(to), tabOf(o, top)), 1, to, want)
			}
		}
	}
}

func TestNavigateEachTab(t *testing.T) {
	evil := secureAt("evil.net")
	for _, size := range []int{0, 1, 2, 7, 8, 9, 30} {
		own, within := browserOf(), browserOf()
		for range size {
			own.Tabs = append(own.Tabs, ownTab(secureAt("bank.com")))
			within.Tabs = append(within.Tabs, tabOf(secureAt("bank.com"), secureAt("www.bank.com")))
		}
		for tab := range size {
			checkNavigated(t, own, tab, evil, evil)
			checkNavigated(t, within, tab, evil, secureAt("www.bank.com"))
		}
		for _, tab := range []int{-1, -2, -size - 1, size, size + 1, 256, 1 << 32, math.MaxInt, math.MinInt} {
			if tab < 0 || tab >= size {
				checkNotNavigated(t, own, tab, evil)
				checkNotNavigated(t, within, tab, evil)
				checkNotNavigated(t, own, tab, impl.Origin{})
			}
		}
	}
	checkNotNavigated(t, impl.Browser{}, 0, evil)
}

func TestNavigateTabOfEveryOrigin(t *testing.T) {
	b := browserOf(ownTab(secureAt("bank.com")), tabOf(secureAt("bank.com"), secureAt("evil.net")))
	for _, o := range someOrigins() {
		checkNavigated(t, b, 0, o, o)
		checkNavigated(t, b, 1, o, secureAt("evil.net"))
	}
	for _, o := range notOrigins() {
		checkNotNavigated(t, b, 0, o)
		checkNotNavigated(t, b, 1, o)
	}
	for port, valid := range map[int]bool{-1: false, 0: false, 1: true, 65535: true, 65536: false} {
		o := portAt(secureAt("bank.com"), port)
		if valid {
			checkNavigated(t, b, 0, o, o)
		} else {
			checkNotNavigated(t, b, 0, o)
		}
	}
}

// A tab that is not valid becomes valid, unless the page around it is not.
func TestNavigateTabThatIsNotValid(t *testing.T) {
	bank := secureAt("bank.com")
	for _, broken := range brokenTabs() {
		b := browserOf(broken, ownTab(secureAt("evil.net")))
		want := broken.Top
		if broken.Origin == broken.Top {
			want = bank
		}
		got := checkNavigated(t, b, 0, bank, want)
		checkCanAsk(t, got, 0, "bank.com", expectedValid(want))
		checkNotNavigated(t, b, 0, impl.Origin{})
	}
	for _, s := range invalidStores() {
		checkNavigated(t, withStore(browserOf(ownTab(bank)), s), 0, secureAt("evil.net"), secureAt("evil.net"))
	}
}

// Two origins that were given apart are equal if all their fields are, and then they tell a page of its own.
func TestNavigateTabOfEqualOrigins(t *testing.T) {
	bank, evil := secureAt("bank.com"), secureAt("evil.net")
	around := secureAt(strings.Join([]string{"bank", "com"}, "."))
	b := checkTabOpened(t, browserOf(), bank, around)
	checkNavigated(t, b, 0, evil, evil)
	b = checkTabOpened(t, b, bank, portAt(around, 8443))
	b = checkNavigated(t, b, 1, evil, portAt(around, 8443))
	checkNotAsked(t, b, 1, "bank.com")
	checkNotAsked(t, b, 1, "evil.net")
	b = checkTabOpened(t, b, bank, portAt(plainAt("bank.com"), 443))
	checkNavigated(t, b, 2, evil, portAt(plainAt("bank.com"), 443))
	b = checkTabOpened(t, b, bank, secureAt("www.bank.com"))
	checkNavigated(t, b, 3, evil, secureAt("www.bank.com"))
}

// Only the two origins tell a page of its own, so a page within a page that was led to the origin around it is taken for one of its own from then on.
func TestNavigateTabToTheTop(t *testing.T) {
	bank, www, evil := secureAt("bank.com"), secureAt("www.bank.com"), secureAt("evil.net")
	b := browserOf(tabOf(www, bank))
	b = checkNavigated(t, b, 0, evil, bank)
	b = checkNavigated(t, b, 0, www, bank)
	b = checkNavigated(t, b, 0, bank, bank)
	b = checkNavigated(t, b, 0, evil, evil)
	checkNotAsked(t, b, 0, "bank.com")
	b = checkNavigated(t, b, 0, bank, bank)
	checkCanAsk(t, b, 0, "bank.com", true)
	b = browserOf(tabOf(bank, evil))
	checkNotAsked(t, b, 0, "bank.com")
	b = checkNavigated(t, b, 0, evil, evil)
	b = checkNavigated(t, b, 0, bank, bank)
	checkCanAsk(t, b, 0, "bank.com", true)
}

// afterOpening and afterNavigating are the tabs that a person sees, who forgets none.
func afterOpening(shown []impl.Tab, o impl.Origin, top impl.Origin) []impl.Tab {
	if len(shown) == 8 {
		return shown
	}
	return append(shown, tabOf(o, top))
}

func afterNavigating(shown []impl.Tab, tab int, o impl.Origin) []impl.Tab {
	if tab < len(shown) && shown[tab].Origin == shown[tab].Top {
		shown[tab].Top = o
	}
	if tab < len(shown) {
		shown[tab].Origin = o
	}
	return shown
}

// Promise 16: of all questions of a long time, only those of a page of the site get an assertion, with consent, and for the page that is open.
func TestAssertionsOverALongTime(t *testing.T) {
	pages, sites := somePages()[:16], []string{"bank.com", "www.bank.com", "shop.org", "evil.net"}
	outcomes := map[string]int{}
	for start := 1; start <= 30; start++ {
		draw := start
		below := func(n int) int {
			draw = (draw*48271 + 11) % impl.Modulus
			return draw / 7 % n
		}
		b, shown, asked, seen := browserOf(), []impl.Tab{}, 0, map[string]int{}
		for i := range 200 {
			o, top, tab, site, consent := pages[below(16)], pages[below(16)], below(8), sites[below(4)], below(3) > 0
			if below(3) == 0 {
				top = o
			}
			key := expectedPublic(expectedSitePrivate(77, site, 3))
			may := expectedCanAsk(browserOf(shown...), tab, site)
			checkCanAsk(t, b, tab, site, may)
			ok, public, a := false, 0, impl.Assertion{}
			switch below(6) {
			case 0:
				b, _ = impl.OpenTab(b, o, top)
				shown, may = afterOpening(shown, o, top), false
			case 1:
				b, _ = impl.NavigateTab(b, tab, o)
				shown, may = afterNavigating(shown, tab, o), false
			case 2:
				b, public, ok = impl.AskRegistration(b, tab, site, 3, consent)
				if ok {
					outcomes["registration"]++
				}
				if ok && public != key {
					t.Errorf("the key of %q is %d", site, public)
				}
			default:
				b, a, ok = impl.AskAssertion(b, tab, site, 3, i, consent)
				if ok {
					outcomes["assertion"]++
					checkCode(t, key, a, site, i, seen[site], impl.AssertOK)
					seen[site] = a.Counter
				}
				if ok && a.Origin != expectedText(shown[tab].Origin) {
					t.Errorf("the page %+v gets %+v", shown[tab], a)
				}
			}
			if may {
				asked++
			}
			if may && !consent {
				outcomes["refusal"]++
			}
			if ok != (may && consent) || b.Asked != asked || !slices.Equal(b.Tabs, shown) || !ok && (public != 0 || a != (impl.Assertion{})) {
				t.Errorf("after the step %d with %v in the tab %d, %+v has become %+v", i, ok, tab, shown, b)
			}
		}
	}
	if outcomes["registration"] < 20 || outcomes["assertion"] < 100 || outcomes["refusal"] < 50 {
		t.Errorf("the outcomes are %v", outcomes)
	}
}

// The browser is a value: the one before the call still has its counters and its tabs.
func TestBrowserFunctionsOfTheSameBrowser(t *testing.T) {
	b := browserOfSize(3)
	for range 3 {
		checkTabOpened(t, b, secureAt("bank.com"), secureAt("evil.net"))
		checkAllAsked(t, b, 1, "bank.com")
		checkNavigated(t, b, 1, secureAt("evil.net"), portAt(secureAt("bank.com"), 2))
	}
}

func someBrowsers() []impl.Browser {
	list := []impl.Browser{{}, browserOf(), {Tabs: []impl.Tab{}}, {Tabs: []impl.Tab{{}}}, {Store: storeOf(77, 5)}, {Asked: 1}, {Asked: -1}, {Asked: math.MaxInt}, {Asked: math.MinInt}}
	for size := range 10 {
		list = append(list, browserOfSize(size), withAsked(browserOfSize(size), 0))
	}
	for i, o := range somePages() {
		top := somePages()[(i+1)%len(somePages())]
		list = append(list, browserOf(ownTab(o)), browserOf(tabOf(o, top)), browserOf(tabOf(top, o)), browserOf(ownTab(o), ownTab(top)))
	}
	for _, s := range append(validStores(), invalidStores()...) {
		list = append(list, withStore(browserOfSize(2), s), impl.Browser{Store: s})
	}
	for _, broken := range brokenTabs() {
		list = append(list, browserOf(broken))
	}
	return list
}

func TestEqualBrowsers(t *testing.T) {
	browsers := someBrowsers()
	for i, b := range browsers {
		checkEqualBrowsers(t, b, b, true)
		checkEqualBrowsers(t, b, cloneBrowser(b), true)
		for _, other := range browsers[i:] {
			checkEqualBrowsers(t, b, other, sameBrowser(b, other))
		}
	}
}

func TestEqualBrowsersOfNilAndEmpty(t *testing.T) {
	checkEqualBrowsers(t, impl.Browser{}, impl.Browser{Tabs: []impl.Tab{}}, true)
	checkEqualBrowsers(t, browserOf(), impl.Browser{Store: storeOf(77, 5), Tabs: make([]impl.Tab, 0, 4)}, true)
	checkEqualBrowsers(t, impl.Browser{}, impl.Browser{Tabs: []impl.Tab{{}}}, false)
	checkEqualBrowsers(t, impl.Browser{Tabs: []impl.Tab{{}}}, impl.Browser{Tabs: []impl.Tab{{}, {}}}, false)
}

func TestEqualBrowsersThatDiffer(t *testing.T) {
	for _, b := range []impl.Browser{browserOf(), browserOfSize(1), browserOfSize(3), browserOfSize(8), withAsked(browserOf(ownTab(impl.Origin{})), -1), {Tabs: make([]impl.Tab, 2)}} {
		for _, n := range []int{1, -1, 1 << 32, impl.Modulus, math.MinInt} {
			for field := range 4 {
				s := b.Store
				*[]*int{&s.Vendor, &s.Serial, &s.Seed, &s.Counter}[field] += n
				checkEqualBrowsers(t, b, withStore(b, s), false)
			}
			checkEqualBrowsers(t, b, withAsked(b, b.Asked+n), false)
			for i, shown := range b.Tabs {
				checkEqualBrowsers(t, b, withTabAt(b, i, tabOf(portAt(shown.Origin, shown.Origin.Port+n), shown.Top)), false)
				checkEqualBrowsers(t, b, withTabAt(b, i, tabOf(shown.Origin, portAt(shown.Top, shown.Top.Port+n))), false)
			}
		}
		for i, shown := range b.Tabs {
			other := shown.Origin
			other.Host += "x"
			checkEqualBrowsers(t, b, withTabAt(b, i, tabOf(other, shown.Top)), false)
			checkEqualBrowsers(t, b, withTabAt(b, i, tabOf(shown.Origin, impl.Origin{Secure: shown.Top.Secure, Host: shown.Top.Host + "x", Port: shown.Top.Port})), false)
			checkEqualBrowsers(t, b, withTabAt(b, i, tabOf(impl.Origin{Secure: !shown.Origin.Secure, Host: shown.Origin.Host, Port: shown.Origin.Port}, shown.Top)), false)
			checkEqualBrowsers(t, b, withTabAt(b, i, tabOf(shown.Origin, impl.Origin{Secure: !shown.Top.Secure, Host: shown.Top.Host, Port: shown.Top.Port})), false)
			fewer := cloneBrowser(b)
			fewer.Tabs = slices.Delete(fewer.Tabs, i, i+1)
			checkEqualBrowsers(t, b, fewer, false)
		}
		more := cloneBrowser(b)
		more.Tabs = append(more.Tabs, impl.Tab{})
		checkEqualBrowsers(t, b, more, false)
	}
	one, other := ownTab(secureAt("bank.com")), ownTab(secureAt("evil.net"))
	checkEqualBrowsers(t, browserOf(one, other), browserOf(other, one), false)
	checkEqualBrowsers(t, browserOf(tabOf(one.Origin, other.Origin)), browserOf(tabOf(other.Origin, one.Origin)), false)
}

// browserChanges are calls that return a browser, with arguments of every kind.
func browserChanges() map[string]func(impl.Browser) impl.Browser {
	changes := map[string]func(impl.Browser) impl.Browser{}
	for _, o := range []impl.Origin{secureAt("bank.com"), secureAt("evil.net"), {}} {
		changes["OpenTab of "+o.Host] = func(b impl.Browser) impl.Browser {
			got, _ := impl.OpenTab(b, o, secureAt("bank.com"))
			return got
		}
		for tab := -1; tab <= maxTabs+1; tab++ {
			changes["NavigateTab to "+o.Host+" of "+impl.FormatInt(tab)] = func(b impl.Browser) impl.Browser {
				got, _ := impl.NavigateTab(b, tab, o)
				return got
			}
		}
	}
	for tab := -1; tab <= maxTabs+1; tab++ {
		for _, site := range []string{"bank.com", "shop.org"} {
			for name, consent := range map[string]bool{"granted ": true, "refused ": false} {
				with := site + " in " + impl.FormatInt(tab)
				changes[name+"AskAssertion for "+with] = func(b impl.Browser) impl.Browser {
					got, _, _ := impl.AskAssertion(b, tab, site, 3, 99, consent)
					return got
				}
				changes[name+"AskRegistration for "+with] = func(b impl.Browser) impl.Browser {
					got, _, _ := impl.AskRegistration(b, tab, site, 3, consent)
					return got
				}
			}
		}
	}
	return changes
}

// changedBrowsers are few browsers, but each of another shape.
func changedBrowsers() []impl.Browser {
	list := []impl.Browser{{}, browserOf(), withStore(browserOfSize(3), impl.KeyStore{}), withStore(browserOfSize(3), storeOf(77, maxCounter)), browserOf(brokenTabs()[:9]...), browserOf(ownTab(secureAt("bank.com")), tabOf(secureAt("evil.net"), secureAt("bank.com")))}
	for size := range maxTabs + 3 {
		list = append(list, browserOfSize(size))
	}
	return list
}

func TestBrowsersAreApart(t *testing.T) {
	filler, fill, other := ownTab(secureAt("x.y")), ownTab(plainAt("z")), ownTab(impl.Origin{Port: 55})
	for name, change := range browserChanges() {
		for _, b := range changedBrowsers() {
			given := b
			tabs, array := withSpare(filler, b.Tabs...)
			given.Tabs = tabs
			before := slices.Clone(array)
			got := change(given)
			if again := change(cloneBrowser(b)); !sameBrowser(got, again) {
				t.Errorf("%s gives %+v and %+v", name, got, again)
			}
			checkApart(t, name, got.Tabs, fill, array, before, other)
		}
	}
}

func TestBrowserQuestionsLeaveTheirBrowsers(t *testing.T) {
	for _, b := range someBrowsers() {
		tabs, array := withSpare(ownTab(secureAt("bank.com")), b.Tabs...)
		given := b
		given.Tabs = tabs
		before := slices.Clone(array)
		for tab := -1; tab <= len(tabs)+1; tab++ {
			impl.CanAsk(given, tab, "bank.com")
		}
		impl.EqualBrowsers(given, b)
		if !slices.Equal(array, before) {
			t.Errorf("the tabs %+v became %+v", before, array)
		}
	}
}

// A second call with the same browser would overwrite the first result, if both had written to the spare capacity.
func TestResultsOfOneBrowserAreApart(t *testing.T) {
	b := browserOfSize(2)
	b.Tabs, _ = withSpare(impl.Tab{}, b.Tabs...)
	first, _ := impl.OpenTab(b, secureAt("bank.com"), secureAt("bank.com"))
	second, _ := impl.OpenTab(b, secureAt("evil.net"), secureAt("bank.com"))
	if first.Tabs[2] != ownTab(secureAt("bank.com")) || second.Tabs[2] != tabOf(secureAt("evil.net"), secureAt("bank.com")) {
		t.Errorf("the tabs are %+v and %+v", first.Tabs, second.Tabs)
	}
	first, _ = impl.NavigateTab(b, 1, secureAt("bank.com"))
	second, _ = impl.NavigateTab(b, 1, secureAt("evil.net"))
	if first.Tabs[1].Origin != secureAt("bank.com") || second.Tabs[1].Origin != secureAt("evil.net") {
		t.Errorf("the tabs are %+v and %+v", first.Tabs, second.Tabs)
	}
}

// What is in the spare capacity is no tab.
func TestBrowserFunctionsIgnoreSpareCapacity(t *testing.T) {
	for _, size := range []int{0, 1, 7} {
		b := browserOfSize(size)
		b.Tabs, _ = withSpare(ownTab(secureAt("bank.com")), b.Tabs...)
		for _, tab := range []int{size, size + 1, 8} {
			checkNotAsked(t, b, tab, "bank.com")
			checkNotNavigated(t, b, tab, secureAt("bank.com"))
		}
		checkTabOpened(t, b, secureAt("evil.net"), secureAt("bank.com"))
		checkEqualBrowsers(t, b, browserOfSize(size), true)
	}
}

// Between the calls with the same browser there are others, of which nothing may be left.
func TestBrowserFunctionsKeepNoState(t *testing.T) {
	changes := browserChanges()
	for range 3 {
		b := browserOfSize(3)
		checkTabOpened(t, b, secureAt("bank.com"), secureAt("evil.net"))
		checkAllAsked(t, b, 0, "bank.com")
		checkNotAsked(t, b, 0, "shop.org")
		checkNavigated(t, b, 1, secureAt("bank.com"), portAt(secureAt("bank.com"), 2))
		checkEqualBrowsers(t, b, browserOfSize(3), true)
		for _, other := range changedBrowsers() {
			for _, change := range changes {
				change(other)
			}
		}
	}
}

func TestBrowserFunctionsReturnForAllArguments(t *testing.T) {
	numbers := append(anyInts(), 2, 8, 9, 443, 65535, 65536, maxCounter, lastKey)
	for _, n := range numbers {
		for _, m := range numbers {
			shown := tabOf(portAt(secureAt("www.bank.com"), n), portAt(secureAt("bank.com"), m))
			for _, b := range []impl.Browser{withAsked(browserOf(shown), n), withStore(browserOf(ownTab(shown.Origin), shown), storeOf(n, m)), withStore(browserOf(ownTab(secureAt("bank.com"))), storeFrom(n, m, 77))} {
				checkAnyBrowser(t, b, n, "bank.com", shown.Origin)
				checkAnyBrowser(t, b, 0, "www.bank.com", shown.Top)
			}
		}
	}
	for _, text := range []string{"", "\xff.\xff", "\x00", repeated("a.", 5000), repeated("a", 5000), "b\u00e4nk.com", "-.-"} {
		for _, b := range []impl.Browser{{}, browserOf(ownTab(secureAt(text))), browserOfSize(3000), withStore(browserOf(tabOf(secureAt("bank.com"), secureAt(text))), impl.KeyStore{})} {
			for _, tab := range []int{0, 2999, 3000, math.MaxInt, math.MinInt} {
				checkAnyBrowser(t, b, tab, text, secureAt(text))
				checkAnyBrowser(t, b, tab, "bank.com", secureAt("bank.com"))
			}
		}
	}
}

func checkAnyBrowser(t *testing.T, b impl.Browser, tab int, site string, o impl.Origin) {
	t.Helper()
	if expectedValid(o) && len(b.Tabs) < 8 {
		checkTabOpened(t, b, o, secureAt("bank.com"))
		checkTabOpened(t, b, secureAt("bank.com"), o)
	} else {
		checkTabNotOpened(t, b, o, secureAt("bank.com"))
		checkTabNotOpened(t, b, secureAt("bank.com"), o)
	}
	checkAllAsked(t, b, tab, site)
	if tab < 0 || tab >= len(b.Tabs) || !expectedValid(o) {
		checkNotNavigated(t, b, tab, o)
	} else if b.Tabs[tab].Origin == b.Tabs[tab].Top {
		checkNavigated(t, b, tab, o, o)
	} else {
		checkNavigated(t, b, tab, o, b.Tabs[tab].Top)
	}
	checkEqualBrowsers(t, b, cloneBrowser(b), true)
	checkEqualBrowsers(t, b, withAsked(b, tab), b.Asked == tab)
}
