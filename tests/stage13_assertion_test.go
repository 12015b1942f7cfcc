package tests

import (
	"math"
	"math/big"
	"slices"
	"strconv"
	"testing"

	"loop.example/g00581/impl"
)

// bankPublic is the key of the handle 3 at bank.com in the store with the seed 77.
const bankPublic = 528021353

// expectedCodes is the order in which the faults of an assertion are reported: that of a signature comes before that of a counter.
var expectedCodes = []int{1, 2, 3, 5, 4}

// bankAssertion is what the store with the seed 77 makes of the challenge 99 as its signature with the counter 6.
func bankAssertion() impl.Assertion {
	return impl.Assertion{Site: "bank.com", Origin: "https://www.bank.com", Challenge: 99, Handle: 3, Present: true, Counter: 6, Signature: 92301829}
}

func bankPrivate() int {
	return expectedSitePrivate(77, "bank.com", 3)
}

// siteOrigins are the texts of origins that may use the keys of bank.com.
func siteOrigins() []string {
	return []string{
		"https://bank.com", "https://bank.com:80", "https://bank.com:8443", "https://bank.com:1", "https://bank.com:65535", "https://bank.com:444", "https://bank.com:4430",
		"https://www.bank.com", "https://www.bank.com:80", "https://www.bank.com:8443", "https://a.b.c.bank.com", "https://bank.com.bank.com", "https://bank.bank.com:2", "https://0.bank.com", "https://evil.bank.com", "https://com.bank.com",
	}
}

// otherOrigins are the texts of origins that may not use the keys of bank.com.
func otherOrigins() []string {
	return []string{
		"http://bank.com", "http://bank.com:443", "http://bank.com:8443", "http://bank.com:1", "http://www.bank.com", "http://www.bank.com:443", "http://www.bank.com:65535",
		"https://shop.com", "https://com", "https://bank", "https://bank.org", "https://evilbank.com", "https://evil-bank.com", "https://ank.com", "https://bankcom", "https://bank-com", "https://com.bank",
		"https://bank.com.evil.net", "https://bank.com.evil.net:8443", "https://www.bank.com.evil.net", "https://www.evilbank.com", "https://bank.co", "https://bank.comm", "https://localhost", "https://10.0.0.1", "https://evil.net",
	}
}

// noOrigins are no texts of origins, though most name bank.com.
func noOrigins() []string {
	return []string{
		"", "bank.com", "www.bank.com", "bank.com:443", "//bank.com", "https:", "https://", "https:/bank.com", "https:bank.com", "HTTPS://bank.com", "Https://bank.com", "httpss://bank.com", "wss://bank.com", "ftp://bank.com",
		"https://bank.com:443", "https://www.bank.com:443", "http://bank.com:80", "https://bank.com:", "https://bank.com:0", "https://bank.com:080", "https://bank.com:0443", "https://bank.com:65536", "https://bank.com:-1", "https://bank.com:+80", "https://bank.com:x", "https://bank.com:80:80", "https://bank.com:18446744073709551696",
		"https://bank.com/", "https://www.bank.com/login", "https://bank.com?", "https://bank.com#", "https://user@bank.com", " https://bank.com", "https://bank.com ", "https://bank.com\n", "https://bank.com\x00", "https://\x00.bank.com",
		"https://Bank.com", "https://www.BANK.com", "https://.bank.com", "https://bank.com.", "https://bank..com", "https://-.bank.com", "https://*.bank.com", "https://b\u00e4.bank.com", "https://\xff.bank.com", "https://" + repeated("a", 21) + ".bank.com", "https://" + repeated("a.", 27) + "bank.com",
	}
}

// expectedText is the text of an origin that is valid.
func expectedText(o impl.Origin) string {
	scheme, unwritten := "http", 80
	if o.Secure {
		scheme, unwritten = "https", 443
	}
	if o.Port == unwritten {
		return scheme + "://" + o.Host
	}
	return scheme + "://" + o.Host + ":" + strconv.Itoa(o.Port)
}

func expectedTextHash(text string) int {
	values := []int{len(text)}
	for _, c := range []byte(text) {
		values = append(values, int(c))
	}
	return max(1, expectedKeyedHash(211, values...))
}

func expectedMessage(a impl.Assertion) []int {
	present := map[bool]int{false: 0, true: 1}[a.Present]
	return []int{199, expectedSiteHash(a.Site), expectedTextHash(a.Origin), a.Challenge, a.Handle, present}
}

// signedBy signs an assertion that no device needs to have made.
func signedBy(private int, a impl.Assertion) impl.Assertion {
	a.Signature = expectedSignature(private, append(expectedMessage(a), a.Counter))
	return a
}

func expectedAssertion(s impl.KeyStore, o impl.Origin, site string, handle int, challenge int, present bool) impl.Assertion {
	a := impl.Assertion{Site: site, Origin: expectedText(o), Challenge: challenge, Handle: handle, Present: present, Counter: s.Counter + 1}
	return signedBy(expectedSitePrivate(s.Seed, site, handle), a)
}

func expectedCode(public int, a impl.Assertion, site string, challenge int, counter int) int {
	o, ok := expectedOrigin(a.Origin)
	if !ok || a.Site != site || !expectedMayUse(o, site) {
		return 1
	}
	if !a.Present {
		return 2
	}
	if a.Challenge != challenge {
		return 3
	}
	if !isKey(public) || a.Signature != expectedSignature(expectedPrivate(public), append(expectedMessage(a), a.Counter)) {
		return 5
	}
	if a.Counter <= counter {
		return 4
	}
	return 0
}

// originOf is the origin with this text, which must be one.
func originOf(t *testing.T, text string) impl.Origin {
	t.Helper()
	o, ok := expectedOrigin(text)
	if !ok {
		t.Errorf("%q is no origin", text)
	}
	return o
}

func checkMessage(t *testing.T, a impl.Assertion, want ...int) {
	t.Helper()
	if got := impl.AssertionMessage(a); !slices.Equal(got, want) {
		t.Errorf("AssertionMessage(%+v) = %v, want %v", a, got, want)
	}
}

// checkMade expects that the store makes the assertion, and returns the store with its new counter.
func checkMade(t *testing.T, s impl.KeyStore, o impl.Origin, want impl.Assertion) impl.KeyStore {
	t.Helper()
	counted := s
	counted.Counter = want.Counter
	next, got, ok := impl.MakeAssertion(s, o, want.Site, want.Handle, want.Challenge, want.Present)
	if next != counted || got != want || !ok {
		t.Errorf("MakeAssertion(%+v, %+v, %q, %d, %d, %v) = %+v, %+v, %v, want %+v, %+v, true", s, o, want.Site, want.Handle, want.Challenge, want.Present, next, got, ok, counted, want)
	}
	if want.Present {
		if next, got, ok := impl.RelayAssertion(s, o, want.Site, want.Handle, want.Challenge); next != counted || got != want || !ok {
			t.Errorf("RelayAssertion(%+v, %+v, %q, %d, %d) = %+v, %+v, %v, want %+v, %+v, true", s, o, want.Site, want.Handle, want.Challenge, next, got, ok, counted, want)
		}
	}
	return next
}

func checkNotMade(t *testing.T, s impl.KeyStore, o impl.Origin, site string, handle int, challenge int) {
	t.Helper()
	for _, present := range []bool{false, true} {
		if next, got, ok := impl.MakeAssertion(s, o, site, handle, challenge, present); next != s || got != (impl.Assertion{}) || ok {
			t.Errorf("MakeAssertion(%+v, %+v, %q, %d, %d, %v) = %+v, %+v, %v", s, o, site, handle, challenge, present, next, got, ok)
		}
	}
	if next, got, ok := impl.RelayAssertion(s, o, site, handle, challenge); next != s || got != (impl.Assertion{}) || ok {
		t.Errorf("RelayAssertion(%+v, %+v, %q, %d, %d) = %+v, %+v, %v", s, o, site, handle, challenge, next, got, ok)
	}
}

func checkCode(t *testing.T, public int, a impl.Assertion, site string, challenge int, counter int, want int) {
	t.Helper()
	if got := impl.CheckAssertion(public, a, site, challenge, counter); got != want {
		t.Errorf("CheckAssertion(%d, %+v, %q, %d, %d) = %d, want %d", public, a, site, challenge, counter, got, want)
	}
}

// checkAtBank checks the assertion as bank.com does, with its challenge 99 and the last counter 5.
func checkAtBank(t *testing.T, a impl.Assertion, want int) {
	t.Helper()
	checkCode(t, bankPublic, a, "bank.com", 99, 5, want)
}

func checkClone(t *testing.T, counter int, last int, want bool) {
	t.Helper()
	for _, a := range []impl.Assertion{{Counter: counter}, {Site: "bank.com", Origin: "x", Challenge: 99, Handle: last, Present: true, Counter: counter, Signature: last}} {
		if got := impl.IsClone(a, last); got != want {
			t.Errorf("IsClone(%+v, %d) = %v", a, last, got)
		}
	}
}

func TestAssertionCodes(t *testing.T) {
	codes := []int{impl.AssertOK, impl.AssertOrigin, impl.AssertPresence, impl.AssertChallenge, impl.AssertCounter, impl.AssertSignature}
	if !slices.Equal(codes, []int{0, 1, 2, 3, 4, 5}) {
		t.Errorf("the codes are %v", codes)
	}
}

func TestAssertionMessage(t *testing.T) {
	a := impl.Assertion{Site: "bank.com", Origin: "https://bank.com", Challenge: 1, Handle: 2}
	checkMessage(t, a, 199, 1941999745, 311159919, 1, 2, 0)
	a.Present = true
	checkMessage(t, a, 199, 1941999745, 311159919, 1, 2, 1)
	checkMessage(t, bankAssertion(), 199, 1941999745, 21135936, 99, 3, 1)
	checkMessage(t, impl.Assertion{}, 199, 1935645424, 293028492, 0, 0, 0)
	checkMessage(t, impl.Assertion{Present: true}, 199, 1935645424, 293028492, 0, 0, 1)
	checkMessage(t, impl.Assertion{Site: "a", Origin: "b", Challenge: -1, Handle: -2}, 199, 1015947758, 98105424, -1, -2, 0)
	checkMessage(t, impl.Assertion{Site: "\xff", Origin: "\x00", Challenge: math.MinInt, Handle: math.MaxInt, Present: true}, 199, 1173948232, 105130, math.MinInt, math.MaxInt, 1)
}

func TestAssertionMessageFollowsItsDefinition(t *testing.T) {
	texts := slices.Concat(storeSites(), siteOrigins(), otherOrigins(), noOrigins(), derivingLabels())
	for i, text := range texts {
		for _, present := range []bool{false, true} {
			for _, n := range someHandles() {
				a := impl.Assertion{Site: texts[len(texts)-1-i], Origin: text, Challenge: n, Handle: ^n, Present: present}
				checkMessage(t, a, expectedMessage(a)...)
			}
		}
		hash := impl.DeriveFromString(211, text)
		checkMessage(t, impl.Assertion{Site: text, Origin: text, Challenge: 7}, 199, impl.SiteHash(text), hash, 7, 0, 0)
	}
}

// The keyed hash of these origins is 0.
func TestAssertionMessageHasNoZeroForAnOrigin(t *testing.T) {
	for _, text := range []string{"https://ykpnoqm.com", "https://khysoss.com", "https://www.srzkckd.com", "https://www.mmkfrhh.com"} {
		o := originOf(t, text)
		checkKeyedHash(t, 0, 211, impl.BytesToInts([]byte(text))...)
		a := impl.Assertion{Site: impl.Registrable(o.Host), Origin: text, Challenge: 99, Handle: 3, Present: true, Counter: 6}
		checkMessage(t, a, 199, impl.SiteHash(a.Site), 1, 99, 3, 1)
		a = signedBy(expectedSitePrivate(77, a.Site, 3), a)
		checkMade(t, storeOf(77, 5), o, a)
		checkCode(t, impl.SitePublic(storeOf(77, 5), a.Site, 3), a, a.Site, 99, 5, impl.AssertOK)
	}
}

// The counter is signed behind the message, and the signature is not signed.
func TestAssertionMessageIsWithoutCounterAndSignature(t *testing.T) {
	for _, n := range []int{0, 1, -1, maxCounter, math.MinInt, math.MaxInt} {
		a := bankAssertion()
		a.Counter, a.Signature = n, ^n
		checkMessage(t, a, 199, 1941999745, 21135936, 99, 3, 1)
	}
}

func TestAssertionMessagesDiffer(t *testing.T) {
	messages := map[[6]int]impl.Assertion{}
	for _, site := range storeSites() {
		for _, text := range append(siteOrigins(), noOrigins()...) {
			for _, n := range []int{0, 1, 99, -1} {
				for _, present := range []bool{false, true} {
					for _, a := range []impl.Assertion{{Site: site, Origin: text, Challenge: n, Handle: 7, Present: present}, {Site: site, Origin: text, Challenge: 7, Handle: n, Present: present}} {
						message := [6]int(impl.AssertionMessage(a))
						if other, ok := messages[message]; ok {
							t.Errorf("%+v and %+v have the message %v", a, other, message)
						}
						messages[message] = a
					}
				}
			}
		}
	}
}

func TestAssertionMessagesAreApart(t *testing.T) {
	for _, a := range []impl.Assertion{bankAssertion(), {}} {
		first, second := impl.AssertionMessage(a), impl.AssertionMessage(a)
		before := slices.Clone(second)
		checkApart(t, "AssertionMessage", first, -66, second, before, -55)
		checkMessage(t, a, before...)
	}
}

func TestMakeAssertion(t *testing.T) {
	s := storeOf(77, 5)
	www := secureAt("www.bank.com")
	a := bankAssertion()
	next := checkMade(t, s, www, a)
	a.Counter, a.Signature = 7, 93301832
	checkMade(t, next, www, a)
	a = bankAssertion()
	a.Present, a.Signature = false, 813681322
	checkMade(t, s, www, a)
	for text, signature := range map[string]int{"https://bank.com": 1974159393, "https://bank.com:8443": 1032642973, "https://bank.com:80": 1073920921} {
		a := bankAssertion()
		a.Origin, a.Signature = text, signature
		checkMade(t, s, originOf(t, text), a)
	}
	a = bankAssertion()
	a.Site, a.Signature = "www.bank.com", 873837817
	checkMade(t, s, www, a)
	a = bankAssertion()
	a.Challenge, a.Handle, a.Signature = -99, maxCounter+1, 1243398988
	checkMade(t, s, www, a)
	checkMade(t, storeOf(77, 0), secureAt("a.b"), impl.Assertion{Site: "a.b", Origin: "https://a.b", Present: true, Counter: 1, Signature: 1335215485})
	checkMade(t, storeOf(1, maxCounter-1), impl.Origin{Secure: true, Host: "x.a.b", Port: 1}, impl.Assertion{Site: "a.b", Origin: "https://x.a.b:1", Challenge: math.MaxInt, Handle: maxCounter, Present: true, Counter: maxCounter, Signature: 690174753})
	checkMade(t, storeOf(lastKey, 41), impl.Origin{Secure: true, Host: "shop.org", Port: 65535}, impl.Assertion{Site: "shop.org", Origin: "https://shop.org:65535", Challenge: math.MinInt, Handle: -1, Counter: 42, Signature: 272999114})
}

func TestMakeAssertionFollowsItsDefinition(t *testing.T) {
	for _, present := range []bool{false, true} {
		for _, text := range siteOrigins() {
			o := originOf(t, text)
			for _, n := range someHandles() {
				for _, s := range []impl.KeyStore{storeOf(77, 5), storeOf(lastKey, 0), storeFrom(9, maxCounter, 1)} {
					checkMade(t, s, o, expectedAssertion(s, o, "bank.com", n, 99, present))
					checkMade(t, s, o, expectedAssertion(s, o, "bank.com", 3, n, present))
				}
			}
		}
	}
}

func TestMakeAssertionOfEveryOriginAndSite(t *testing.T) {
	s := storeOf(77, 5)
	for _, o := range someOrigins() {
		for _, site := range someHosts() {
			if expectedMayUse(o, site) {
				checkMade(t, s, o, expectedAssertion(s, o, site, 3, 99, true))
			} else {
				checkNotMade(t, s, o, site, 3, 99)
			}
		}
	}
}

// The counter goes on whatever is asked for, and no assertion that is refused counts.
func TestAssertionsInARow(t *testing.T) {
	s := storeOf(77, 5)
	for i := range 60 {
		text := siteOrigins()[i%len(siteOrigins())]
		o := originOf(t, text)
		want := expectedAssertion(storeOf(77, 5+i), o, "bank.com", i%4, 99-i, i%3 > 0)
		s = checkMade(t, s, o, want)
		if s.Counter != 6+i {
			t.Errorf("the store is %+v after %d assertions", s, i+1)
		}
		s, _, _ = impl.MakeAssertion(s, secureAt("evil.net"), "bank.com", i%4, 99, true)
		s, _, _ = impl.RelayAssertion(s, plainAt("bank.com"), "bank.com", i%4, 99)
	}
	want := impl.Assertion{Site: "shop.org", Origin: "https://shop.org", Challenge: 1, Handle: 2, Present: true, Counter: 66}
	checkMade(t, s, secureAt("shop.org"), signedBy(expectedSitePrivate(77, "shop.org", 2), want))
}

func TestMakeAssertionUpToTheLimit(t *testing.T) {
	for _, valid := range validStores() {
		s := valid
		s.Counter = maxCounter - 1
		o := secureAt("bank.com")
		s = checkMade(t, s, o, expectedAssertion(s, o, "bank.com", 3, 99, true))
		for range 2 {
			checkNotMade(t, s, o, "bank.com", 3, 99)
			s, _, _ = impl.MakeAssertion(s, o, "bank.com", 3, 99, true)
		}
		if s.Counter != maxCounter {
			t.Errorf("the store at the limit became %+v", s)
		}
	}
}

func TestMakeAssertionAtAnOriginOfAnotherSite(t *testing.T) {
	for _, text := range otherOrigins() {
		o := originOf(t, text)
		for _, s := range []impl.KeyStore{storeOf(77, 5), storeOf(77, 0), storeOf(77, maxCounter), storeOf(0, 5)} {
			for _, n := range []int{0, 3, 99, -1, maxCounter + 1} {
				checkNotMade(t, s, o, "bank.com", 3, n)
				checkNotMade(t, s, o, "bank.com", n, 99)
			}
		}
	}
}

func TestMakeAssertionAtAnOriginThatIsNotValid(t *testing.T) {
	for _, o := range notOrigins() {
		for _, site := range []string{o.Host, "bank.com", ""} {
			checkNotMade(t, storeOf(77, 5), o, site, 3, 99)
		}
	}
	for _, port := range badPorts() {
		checkNotMade(t, storeOf(77, 5), impl.Origin{Secure: true, Host: "www.bank.com", Port: port}, "bank.com", 3, 99)
	}
}

func TestMakeAssertionForNoSite(t *testing.T) {
	for _, site := range append(notHosts(), "com", "bank", "localhost", "m", ".com", ".bank.com", "bank.com.", "Bank.com", "www..bank.com", hostOfLength(61)) {
		for _, host := range []string{"bank.com", "www.bank.com", "com", "localhost", site, "www." + site} {
			checkNotMade(t, storeOf(77, 5), secureAt(host), site, 3, 99)
		}
	}
}

func TestMakeAssertionWithAnInvalidStore(t *testing.T) {
	for _, s := range invalidStores() {
		for _, text := range []string{"https://bank.com", "https://www.bank.com:8443", "https://evil.net", "http://bank.com"} {
			checkNotMade(t, s, originOf(t, text), "bank.com", 3, 99)
		}
		checkNotMade(t, s, impl.Origin{}, "", 0, 0)
	}
}

func TestCheckAssertion(t *testing.T) {
	a := bankAssertion()
	checkCode(t, bankPublic, a, "bank.com", 99, 5, 0)
	checkCode(t, bankPublic, a, "bank.com", 99, 0, 0)
	checkCode(t, bankPublic, a, "shop.org", 99, 5, 1)
	checkCode(t, bankPublic, a, "www.bank.com", 99, 5, 1)
	checkCode(t, bankPublic, a, "bank.com", 98, 5, 3)
	checkCode(t, bankPublic+1, a, "bank.com", 99, 5, 5)
	checkCode(t, bankPublic, a, "bank.com", 99, 6, 4)
	checkCode(t, bankPublic, a, "bank.com", 99, 7, 4)
	a.Present, a.Signature = false, 813681322
	checkAtBank(t, a, 2)
	checkCode(t, 0, impl.Assertion{}, "", 0, 0, 1)
}

func TestCheckAssertionThatWasMade(t *testing.T) {
	for _, s := range []impl.KeyStore{storeOf(77, 5), storeOf(78, 0), storeFrom(9, maxCounter, lastKey), storeOf(1, maxCounter-1)} {
		for _, text := range siteOrigins() {
			for _, handle := range []int{0, 1, 3, maxCounter, -1, maxCounter + 1, math.MinInt} {
				for _, challenge := range []int{0, 1, 99, -1, impl.Modulus, math.MinInt, math.MaxInt} {
					next, a, ok := impl.MakeAssertion(s, originOf(t, text), "bank.com", handle, challenge, true)
					public := impl.SitePublic(s, "bank.com", handle)
					checkCode(t, public, a, "bank.com", challenge, s.Counter, impl.AssertOK)
					checkCode(t, public, a, "bank.com", challenge, next.Counter, impl.AssertCounter)
					checkCode(t, public, a, "bank.com", challenge+1, s.Counter, impl.AssertChallenge)
					if !ok {
						t.Errorf("no assertion is made at %q with %+v", text, s)
					}
				}
			}
		}
	}
}

// At the site, each assertion in a row has a greater counter than the one that the site saw before.
func TestCheckAssertionsInARow(t *testing.T) {
	s := storeOf(77, 0)
	seen := 0
	for challenge := range 40 {
		next, a, _ := impl.MakeAssertion(s, secureAt("bank.com"), "bank.com", 3, challenge, true)
		checkCode(t, bankPublic, a, "bank.com", challenge, seen, impl.AssertOK)
		checkCode(t, bankPublic, a, "bank.com", challenge, a.Counter, impl.AssertCounter)
		seen = a.Counter
		_, b, _ := impl.MakeAssertion(impl.CloneStore(s), secureAt("bank.com"), "bank.com", 3, challenge, true)
		checkCode(t, bankPublic, b, "bank.com", challenge, seen, impl.AssertCounter)
		if !impl.IsClone(b, seen) {
			t.Errorf("the assertion %+v is not taken for that of a clone", b)
		}
		s = next
	}
}

// faultyOrigins are three assertions, signed by bankPrivate, that bank.com does not accept because of their Site or Origin.
func faultyOrigins(a impl.Assertion) []impl.Assertion {
	elsewhere, phished, textless := a, a, a
	elsewhere.Site = "shop.org"
	phished.Origin = "https://bank.com.evil.net"
	textless.Origin = "https://bank.com:443"
	return []impl.Assertion{elsewhere, phished, textless}
}

// Of every set of faults, the one that the chapter names first is reported.
func TestCheckAssertionWithSeveralFaults(t *testing.T) {
	for set := range 32 {
		has := func(fault int) bool { return set>>fault&1 == 1 }
		want := 0
		for fault := 4; fault >= 0; fault-- {
			if has(fault) {
				want = expectedCodes[fault]
			}
		}
		a := bankAssertion()
		counter := 5
		a.Present = !has(1)
		if has(2) {
			a.Challenge = 98
		}
		if has(4) {
			counter = 6
		}
		list := []impl.Assertion{a}
		if has(0) {
			list = faultyOrigins(a)
		}
		for _, a := range list {
			a = signedBy(bankPrivate(), a)
			if has(3) {
				a.Signature++
			}
			checkCode(t, bankPublic, a, "bank.com", 99, counter, want)
			checkCode(t, bankPublic, a, "bank.com", 99, counter, expectedCode(bankPublic, a, "bank.com", 99, counter))
		}
	}
}

func TestCheckAssertionWithTheOriginOfTheSite(t *testing.T) {
	for _, text := range siteOrigins() {
		a := bankAssertion()
		a.Origin = text
		checkAtBank(t, signedBy(bankPrivate(), a), impl.AssertOK)
	}
}

// The signature is right, as if the device had signed whatever the phisher asked for.
func TestCheckAssertionWithAnotherOrigin(t *testing.T) {
	for _, text := range append(otherOrigins(), noOrigins()...) {
		a := bankAssertion()
		a.Origin = text
		a = signedBy(bankPrivate(), a)
		checkAccepted(t, true, bankPublic, append(expectedMessage(a), 6), a.Signature)
		checkAtBank(t, a, impl.AssertOrigin)
	}
}

func TestCheckAssertionOfEveryOriginAndSite(t *testing.T) {
	for _, o := range someOrigins() {
		for _, site := range someHosts() {
			a := signedBy(bankPrivate(), impl.Assertion{Site: site, Origin: expectedText(o), Challenge: 99, Handle: 3, Present: true, Counter: 6})
			want := map[bool]int{false: impl.AssertOrigin, true: impl.AssertOK}[expectedMayUse(o, site)]
			checkCode(t, bankPublic, a, site, 99, 5, want)
		}
	}
}

// The chapters know no public suffixes but that a site has at least two labels: co.uk is a site, and a page of bank.co.uk may use its keys.
func TestAssertionsOfRelatedHosts(t *testing.T) {
	for _, c := range []struct {
		host string
		site string
		may  bool
	}{
		{"bank.com", "bank.com", true}, {"www.bank.com", "bank.com", true}, {"www.bank.com", "www.bank.com", true}, {"bank.com", "www.bank.com", false}, {"mail.bank.com", "www.bank.com", false}, {"shop.com", "bank.com", false}, {"com", "bank.com", false}, {"bank.com", "com", false},
		{"bank.co.uk", "bank.co.uk", true}, {"www.bank.co.uk", "bank.co.uk", true}, {"co.uk", "bank.co.uk", false}, {"shop.co.uk", "bank.co.uk", false}, {"bank.co.uk", "co.uk", true}, {"bank.co.uk", "uk", false},
	} {
		for _, port := range goodPorts() {
			secure, plain := impl.Origin{Secure: true, Host: c.host, Port: port}, impl.Origin{Host: c.host, Port: port}
			private := expectedSitePrivate(77, c.site, 3)
			a := expectedAssertion(storeOf(77, 5), secure, c.site, 3, 99, true)
			if c.may {
				checkMade(t, storeOf(77, 5), secure, a)
				checkCode(t, expectedPublic(private), a, c.site, 99, 5, impl.AssertOK)
			} else {
				checkNotMade(t, storeOf(77, 5), secure, c.site, 3, 99)
				checkCode(t, expectedPublic(private), a, c.site, 99, 5, impl.AssertOrigin)
			}
			checkNotMade(t, storeOf(77, 5), plain, c.site, 3, 99)
			a.Origin = expectedText(plain)
			checkCode(t, expectedPublic(private), signedBy(private, a), c.site, 99, 5, impl.AssertOrigin)
		}
	}
}

func TestCheckAssertionForEveryPort(t *testing.T) {
	for port := 1; port <= 65535 && !t.Failed(); port += 1 + port%7 {
		a := bankAssertion()
		a.Origin = expectedText(impl.Origin{Secure: true, Host: "bank.com", Port: port})
		checkAtBank(t, signedBy(bankPrivate(), a), impl.AssertOK)
		a.Origin = expectedText(impl.Origin{Host: "bank.com", Port: port})
		checkAtBank(t, signedBy(bankPrivate(), a), impl.AssertOrigin)
	}
}

func TestCheckAssertionForNoSite(t *testing.T) {
	for _, site := range append(notHosts(), "com", "bank", "localhost", ".com", ".bank.com", "bank.com.", hostOfLength(61)) {
		for _, text := range []string{"https://bank.com", "https://www.bank.com", "https://com", "https://localhost", "https://" + site, "https://www." + site, ""} {
			a := signedBy(bankPrivate(), impl.Assertion{Site: site, Origin: text, Challenge: 99, Handle: 3, Present: true, Counter: 6})
			checkCode(t, bankPublic, a, site, 99, 5, impl.AssertOrigin)
			checkCode(t, bankPublic, a, "bank.com", 99, 5, impl.AssertOrigin)
			checkCode(t, bankPublic, bankAssertion(), site, 99, 5, impl.AssertOrigin)
		}
	}
}

// A site that also may be used at the origin is another one all the same.
func TestCheckAssertionForAnotherSite(t *testing.T) {
	sites := []string{"bank.com", "www.bank.com", "a.www.bank.com", "shop.org"}
	for _, asked := range sites {
		for _, site := range sites {
			a := impl.Assertion{Site: asked, Origin: "https://a.www.bank.com", Challenge: 99, Handle: 3, Present: true, Counter: 6}
			want := impl.AssertOrigin
			if site == asked && site != "shop.org" {
				want = impl.AssertOK
			}
			checkCode(t, bankPublic, signedBy(bankPrivate(), a), site, 99, 5, want)
		}
	}
}

func TestCheckAssertionWithAnyChallenge(t *testing.T) {
	numbers := append(someHandles(), 98, 99, 100, -99)
	for _, signed := range numbers {
		for _, asked := range numbers {
			a := bankAssertion()
			a.Challenge = signed
			want := map[bool]int{false: impl.AssertChallenge, true: impl.AssertOK}[signed == asked]
			checkCode(t, bankPublic, signedBy(bankPrivate(), a), "bank.com", asked, 5, want)
		}
	}
	// The hash takes the challenge modulo Modulus, but the site compares the numbers themselves.
	for _, multiple := range []int{-2, -1, 1, 2} {
		a := bankAssertion()
		a.Challenge += multiple * impl.Modulus
		checkAtBank(t, a, impl.AssertChallenge)
		checkCode(t, bankPublic, bankAssertion(), "bank.com", a.Challenge, 5, impl.AssertChallenge)
	}
}

func TestCheckAssertionWithAnyCounter(t *testing.T) {
	for _, signed := range []int{math.MinInt, math.MinInt + 1, -maxCounter, -2, -1, 0, 1, 2, 5, 6, 7, maxCounter - 1, maxCounter, maxCounter + 1, impl.Modulus, 1 << 40, math.MaxInt - 1, math.MaxInt} {
		a := bankAssertion()
		a.Counter = signed
		a = signedBy(bankPrivate(), a)
		for _, last := range append(anyInts(), signed-1, signed, signed+1, maxCounter, maxCounter+1, -maxCounter) {
			want := map[bool]int{false: impl.AssertCounter, true: impl.AssertOK}[signed > last]
			checkCode(t, bankPublic, a, "bank.com", 99, last, want)
		}
	}
}

func TestCheckAssertionWithAFieldChanged(t *testing.T) {
	original := bankAssertion()
	checkAtBank(t, original, impl.AssertOK)
	for _, text := range siteOrigins() {
		a := original
		a.Origin = text
		checkAtBank(t, a, map[bool]int{false: impl.AssertSignature, true: impl.AssertOK}[text == original.Origin])
	}
	for _, text := range append(otherOrigins(), noOrigins()...) {
		a := original
		a.Origin = text
		checkAtBank(t, a, impl.AssertOrigin)
	}
	for _, site := range []string{"", "com", "shop.org", "www.bank.com", "Bank.com", "bank.com.", "bank.com\x00", hostOfLength(61)} {
		a := original
		a.Site = site
		checkAtBank(t, a, impl.AssertOrigin)
		checkCode(t, bankPublic, a, site, 99, 5, map[bool]int{false: impl.AssertOrigin, true: impl.AssertSignature}[site == "www.bank.com"])
	}
	absent := original
	absent.Present = false
	checkAtBank(t, absent, impl.AssertPresence)
	for _, n := range changedNumbers(99) {
		a := original
		a.Challenge = n
		checkAtBank(t, a, impl.AssertChallenge)
		checkCode(t, bankPublic, a, "bank.com", n, 5, impl.AssertSignature)
	}
	for _, n := range changedNumbers(3) {
		a := original
		a.Handle = n
		checkAtBank(t, a, impl.AssertSignature)
	}
	for _, n := range changedNumbers(6) {
		a := original
		a.Counter = n
		checkAtBank(t, a, impl.AssertSignature)
	}
	for _, n := range append(changedNumbers(original.Signature), original.Signature+impl.Modulus, original.Signature-impl.Modulus, 0, -1) {
		a := original
		a.Signature = n
		checkAtBank(t, a, impl.AssertSignature)
	}
}

// Present is signed as well: an assertion of a device that nobody touched cannot be turned into another one.
func TestCheckAssertionWithPresentSetLater(t *testing.T) {
	_, a, _ := impl.MakeAssertion(storeOf(77, 5), secureAt("www.bank.com"), "bank.com", 3, 99, false)
	checkAtBank(t, a, impl.AssertPresence)
	a.Present = true
	checkAtBank(t, a, impl.AssertSignature)
}

// The hash takes every number modulo Modulus, and the chapter has no range for Handle and Counter.
func TestCheckAssertionWithNumbersThatAreEqualModuloModulus(t *testing.T) {
	for _, multiple := range []int{-1 << 31, -2, -1, 1, 2, 1 << 31} {
		a := bankAssertion()
		a.Handle += multiple * impl.Modulus
		checkAtBank(t, a, impl.AssertOK)
		a = bankAssertion()
		a.Counter += multiple * impl.Modulus
		checkAtBank(t, a, map[bool]int{false: impl.AssertCounter, true: impl.AssertOK}[multiple > 0])
	}
}

func TestCheckAssertionWithAnotherKey(t *testing.T) {
	a := bankAssertion()
	others := slices.Concat(notKeys(), changedNumbers(bankPublic), []int{bankPublic - impl.Modulus, bankPublic + impl.Modulus, bankPrivate(), 1, lastKey, math.MinInt, math.MaxInt})
	for _, handle := range []int{0, 1, 2, 4, -1, maxCounter} {
		others = append(others, impl.SitePublic(storeOf(77, 5), "bank.com", handle))
	}
	for _, site := range []string{"", "shop.org", "www.bank.com", "com", "Bank.com"} {
		others = append(others, impl.SitePublic(storeOf(77, 5), site, 3))
	}
	for _, seed := range []int{1, 76, 78, lastKey} {
		others = append(others, impl.SitePublic(storeOf(seed, 5), "bank.com", 3))
	}
	others = append(others, impl.DevicePublic(storeOf(77, 5)), impl.PublicKey(77))
	for _, public := range others {
		checkCode(t, public, a, "bank.com", 99, 5, impl.AssertSignature)
		checkCode(t, public, a, "bank.com", 99, 6, impl.AssertSignature)
	}
}

// What no valid key has signed is refused, even if it is the hash with that number in place of a key.
func TestCheckAssertionOfNoKey(t *testing.T) {
	for _, public := range notKeys() {
		a := bankAssertion()
		for _, private := range []int{0, public, expectedPrivate(public)} {
			checkCode(t, public, signedBy(private, a), "bank.com", 99, 5, impl.AssertSignature)
		}
		a.Signature = 0
		checkCode(t, public, a, "bank.com", 99, 5, impl.AssertSignature)
	}
}

func TestCheckAssertionThatIsSignedOtherwise(t *testing.T) {
	a := bankAssertion()
	private := bankPrivate()
	message := expectedMessage(a)
	reversed := slices.Clone(message)
	slices.Reverse(reversed)
	for _, signature := range []int{
		0, 1, bankPublic, private,
		impl.SignMessage(private, message),
		impl.SignMessage(private, append(slices.Clone(message), 5)),
		impl.SignMessage(private, append(slices.Clone(message), 7)),
		impl.SignMessage(private, append(slices.Clone(message), 6, 0)),
		impl.SignMessage(private, append([]int{6}, message...)),
		impl.SignMessage(private, append(reversed, 6)),
		impl.SignMessage(private, append(slices.Clone(message[1:]), 6)),
		impl.SignMessage(private, append([]int{193}, append(slices.Clone(message[1:]), 6)...)),
		impl.SignMessage(private, []int{99, 6}),
		impl.KeyedHash(private, append(slices.Clone(message), 6)),
		impl.SignMessage(bankPublic, append(slices.Clone(message), 6)),
		impl.SignMessage(77, append(slices.Clone(message), 6)),
		impl.SignAsDevice(storeOf(77, 5), append(slices.Clone(message), 6)),
	} {
		a.Signature = signature
		checkAtBank(t, a, impl.AssertSignature)
	}
}

// challengeOfSignatureZero solves for the challenge that the key of the handle answers with 0: the hash is linear in the challenge.
func challengeOfSignatureZero(private int, a impl.Assertion) int {
	a.Challenge = 0
	atZero := big.NewInt(int64(signedBy(private, a).Signature))
	a.Challenge = 1
	slope := reducedBig(new(big.Int).Sub(big.NewInt(int64(signedBy(private, a).Signature)), atZero))
	inverse := slope.ModInverse(slope, big.NewInt(impl.Modulus))
	return int(reducedBig(inverse.Mul(inverse, atZero.Neg(atZero))).Int64())
}

func TestAssertionWithASignatureOfZero(t *testing.T) {
	for _, text := range siteOrigins() {
		a := bankAssertion()
		a.Origin = text
		a.Challenge = challengeOfSignatureZero(bankPrivate(), a)
		a.Signature = 0
		checkMade(t, storeOf(77, 5), originOf(t, text), a)
		checkCode(t, bankPublic, a, "bank.com", a.Challenge, 5, impl.AssertOK)
		checkCode(t, bankPublic+1, a, "bank.com", a.Challenge, 5, impl.AssertSignature)
		checkCode(t, 0, a, "bank.com", a.Challenge, 5, impl.AssertSignature)
		a.Signature = impl.Modulus
		checkCode(t, bankPublic, a, "bank.com", a.Challenge, 5, impl.AssertSignature)
	}
}

func TestAssertionName(t *testing.T) {
	for code, want := range []string{"ok", "origin", "presence", "challenge", "counter", "signature"} {
		if got := impl.AssertionName(code); got != want {
			t.Errorf("AssertionName(%d) = %q, want %q", code, got, want)
		}
	}
	for _, code := range append(beyondRange(5), -3, 6, 7, 10, 1<<8, 1<<32, 1<<32+5, math.MinInt+5) {
		if got := impl.AssertionName(code); got != "" {
			t.Errorf("AssertionName(%d) = %q", code, got)
		}
	}
}

// A phisher shows the person the challenge of the bank, and the browser sees the phisher's origin.
func TestRelayAssertion(t *testing.T) {
	s := storeOf(77, 5)
	for _, text := range otherOrigins() {
		phisher := originOf(t, text)
		next, a, ok := impl.RelayAssertion(s, phisher, "bank.com", 3, 99)
		if next != s || a != (impl.Assertion{}) || ok {
			t.Errorf("RelayAssertion at %q gives %+v, %+v, %v", text, next, a, ok)
		}
		checkAtBank(t, a, impl.AssertOrigin)
	}
	for _, text := range siteOrigins() {
		o := originOf(t, text)
		next, a, ok := impl.RelayAssertion(s, o, "bank.com", 3, 99)
		if next != storeOf(77, 6) || a != expectedAssertion(s, o, "bank.com", 3, 99, true) || !ok {
			t.Errorf("RelayAssertion at %q gives %+v, %+v, %v", text, next, a, ok)
		}
		checkAtBank(t, a, impl.AssertOK)
	}
}

// What a phisher gets for its own site is of no use at the bank, whichever fields it changes.
func TestRelayedAssertionOfThePhishersSite(t *testing.T) {
	for _, host := range []string{"evil.net", "bank.com.evil.net", "evilbank.com", "bank.org"} {
		site := impl.Registrable(host)
		_, got, ok := impl.RelayAssertion(storeOf(77, 5), secureAt(host), site, 3, 99)
		if !ok {
			t.Errorf("no assertion is made at %q for %q", host, site)
		}
		checkCode(t, impl.SitePublic(storeOf(77, 5), site, 3), got, site, 99, 5, impl.AssertOK)
		for choice := range 4 {
			a := got
			want := impl.AssertOrigin
			if choice&1 != 0 {
				a.Site = "bank.com"
			}
			if choice&2 != 0 {
				a.Origin = "https://bank.com"
			}
			if choice == 3 {
				want = impl.AssertSignature
			}
			checkAtBank(t, a, want)
		}
	}
}

func TestIsClone(t *testing.T) {
	checkClone(t, 6, 5, false)
	checkClone(t, 6, 6, true)
	checkClone(t, 6, 7, true)
	for _, counter := range []int{math.MinInt, -maxCounter, -1, 0, 1, 6, maxCounter, maxCounter + 1, 1 << 40, math.MaxInt} {
		checkClone(t, counter, counter, true)
		checkClone(t, counter, math.MaxInt, true)
		checkClone(t, counter, math.MinInt, counter == math.MinInt)
		if counter > math.MinInt {
			checkClone(t, counter, counter-1, false)
			checkClone(t, counter-1, counter, true)
		}
		for _, last := range anyInts() {
			checkClone(t, counter, last, counter <= last)
		}
	}
}

// Promise 13: of all devices, sites, handles and challenges, an assertion is accepted only with those that it was made for.
func TestAssertionIsAcceptedForItsSiteChallengeAndKeyOnly(t *testing.T) {
	type use struct {
		seed      int
		site      string
		handle    int
		challenge int
	}
	uses := []use{}
	for _, seed := range []int{77, 78, lastKey} {
		for _, site := range []string{"bank.com", "www.bank.com", "shop.org", "a.b"} {
			for _, handle := range []int{0, 3} {
				for _, challenge := range []int{98, 99, -1} {
					uses = append(uses, use{seed: seed, site: site, handle: handle, challenge: challenge})
				}
			}
		}
	}
	for _, made := range uses {
		_, a, ok := impl.MakeAssertion(storeOf(made.seed, 5), secureAt("www."+made.site), made.site, made.handle, made.challenge, true)
		if !ok {
			t.Errorf("no assertion is made for %+v", made)
		}
		for _, asked := range uses {
			public := impl.SitePublic(storeOf(asked.seed, 5), asked.site, asked.handle)
			code := impl.CheckAssertion(public, a, asked.site, asked.challenge, 5)
			if (code == impl.AssertOK) != (asked == made) {
				t.Errorf("the assertion for %+v is %q for %+v", made, impl.AssertionName(code), asked)
			}
		}
	}
}

// Of all mixtures of two assertions with one key, only these two themselves are accepted.
func TestMixedAssertions(t *testing.T) {
	first := bankAssertion()
	second := signedBy(bankPrivate(), impl.Assertion{Site: "bank.com", Origin: "https://bank.com:8443", Challenge: 100, Handle: 4, Present: true, Counter: 7})
	for choice := range 32 {
		a := first
		if choice&1 != 0 {
			a.Origin = second.Origin
		}
		if choice&2 != 0 {
			a.Challenge = second.Challenge
		}
		if choice&4 != 0 {
			a.Handle = second.Handle
		}
		if choice&8 != 0 {
			a.Counter = second.Counter
		}
		if choice&16 != 0 {
			a.Signature = second.Signature
		}
		want := impl.AssertSignature
		if choice == 0 || choice == 31 {
			want = impl.AssertOK
		}
		checkCode(t, bankPublic, a, "bank.com", a.Challenge, 5, want)
	}
}

func TestAssertionFunctionsLeaveTheirArguments(t *testing.T) {
	stores := []impl.KeyStore{storeOf(77, 5), storeOf(77, maxCounter), storeOf(0, 5), {}}
	origins := []impl.Origin{secureAt("www.bank.com"), plainAt("bank.com"), {}}
	assertions := []impl.Assertion{bankAssertion(), {}, {Site: "bank.com", Origin: "https://evil.net"}}
	beforeStores, beforeOrigins, beforeAssertions := slices.Clone(stores), slices.Clone(origins), slices.Clone(assertions)
	for i := range stores {
		for j := range origins {
			impl.MakeAssertion(stores[i], origins[j], "bank.com", 3, 99, true)
			impl.RelayAssertion(stores[i], origins[j], "bank.com", 3, 99)
		}
	}
	for i := range assertions {
		impl.AssertionMessage(assertions[i])
		impl.CheckAssertion(bankPublic, assertions[i], "bank.com", 99, 5)
		impl.IsClone(assertions[i], 6)
	}
	if !slices.Equal(stores, beforeStores) || !slices.Equal(origins, beforeOrigins) || !slices.Equal(assertions, beforeAssertions) {
		t.Errorf("the arguments became %+v, %+v and %+v", stores, origins, assertions)
	}
}

// Between the calls with the same arguments there are others, of which nothing may be left, least of all a counter or a challenge.
func TestAssertionFunctionsKeepNoState(t *testing.T) {
	for range 3 {
		checkMessage(t, bankAssertion(), 199, 1941999745, 21135936, 99, 3, 1)
		checkMade(t, storeOf(77, 5), secureAt("www.bank.com"), bankAssertion())
		checkNotMade(t, storeOf(77, 5), secureAt("evil.net"), "bank.com", 3, 99)
		checkAtBank(t, bankAssertion(), impl.AssertOK)
		checkAtBank(t, impl.Assertion{}, impl.AssertOrigin)
		for _, text := range slices.Concat(siteOrigins(), otherOrigins(), noOrigins()) {
			a := bankAssertion()
			a.Origin = text
			impl.AssertionMessage(a)
			impl.CheckAssertion(bankPublic, a, "bank.com", 99, 5)
			impl.CheckAssertion(bankPublic, bankAssertion(), "bank.com", 99, 6)
			impl.RelayAssertion(storeOf(77, 6), secureAt("www.bank.com"), "bank.com", 3, 98)
			impl.IsClone(a, 6)
		}
	}
}

func TestAssertionFunctionsReturnForAllArguments(t *testing.T) {
	texts := slices.Concat(derivingLabels(), []string{"com", "bank.com", "www.bank.com", "https://bank.com", "https://www.bank.com", "http://bank.com", "https://bank.com:8443", "https://bank.com:443", hostOfLength(60), "https://" + hostOfLength(60), hostOfLength(61), repeated(":", 5000), "https://" + repeated("a.", 5000)})
	numbers := append(anyInts(), 3, 99, bankPublic, impl.Modulus, maxCounter, maxCounter+1)
	for i, site := range texts {
		for _, text := range texts {
			for _, present := range []bool{false, true} {
				n, m := numbers[i%len(numbers)], numbers[(i*5+len(text))%len(numbers)]
				checkAnyAssertion(t, impl.Assertion{Site: site, Origin: text, Challenge: n, Handle: m, Present: present, Counter: m, Signature: n}, site, n, m)
			}
		}
	}
	for _, n := range numbers {
		for _, m := range numbers {
			a := impl.Assertion{Site: "bank.com", Origin: "https://bank.com:8443", Challenge: n, Handle: m, Present: true, Counter: n, Signature: m}
			checkAnyAssertion(t, a, "bank.com", n, m)
			checkAnyAssertion(t, signedBy(bankPrivate(), a), "bank.com", n, m)
			checkAnyAssertion(t, a, "shop.org", m, n)
		}
	}
}

// checkAnyAssertion uses the two numbers for a challenge, a counter, a port, a key and the fields of a store.
func checkAnyAssertion(t *testing.T, a impl.Assertion, site string, n int, m int) {
	t.Helper()
	checkMessage(t, a, expectedMessage(a)...)
	for _, public := range []int{bankPublic, n, m} {
		checkCode(t, public, a, site, n, m, expectedCode(public, a, site, n, m))
		checkCode(t, public, a, site, m, n, expectedCode(public, a, site, m, n))
	}
	checkClone(t, a.Counter, m, a.Counter <= m)
	for _, s := range []impl.KeyStore{storeOf(77, 5), {Vendor: n, Serial: m, Seed: n, Counter: m}, storeOf(m, n)} {
		for _, o := range []impl.Origin{secureAt("www.bank.com"), secureAt(site), {Secure: true, Host: a.Origin, Port: m}, plainAt(site)} {
			if expectedMayUse(o, site) && expectedValidStore(s) && s.Counter < maxCounter {
				checkMade(t, s, o, expectedAssertion(s, o, site, n, m, a.Present))
			} else {
				checkNotMade(t, s, o, site, n, m)
			}
		}
	}
}
