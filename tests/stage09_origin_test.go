package tests

import (
	"math"
	"regexp"
	"slices"
	"strconv"
	"strings"
	"testing"
	"unicode/utf8"

	"loop.example/g00581/impl"
)

// hostPattern is the chapter's definition of a host but for the length of the whole.
var hostPattern = regexp.MustCompile(`^[a-z0-9]([a-z0-9-]{0,18}[a-z0-9])?(\.[a-z0-9]([a-z0-9-]{0,18}[a-z0-9])?)*$`)

var originPattern = regexp.MustCompile(`^(https?)://([^:]*)(:([1-9][0-9]{0,4}))?$`)

func expectedHost(s string) bool {
	return len(s) <= 60 && hostPattern.MatchString(s)
}

func expectedValid(o impl.Origin) bool {
	return expectedHost(o.Host) && o.Port >= 1 && o.Port <= 65535
}

// expectedOrigin is the origin of which s is the text, if there is one.
func expectedOrigin(s string) (impl.Origin, bool) {
	parts := originPattern.FindStringSubmatch(s)
	if parts == nil || !expectedHost(parts[2]) {
		return impl.Origin{}, false
	}
	unwritten := map[string]int{"https": 443, "http": 80}[parts[1]]
	o := impl.Origin{Secure: parts[1] == "https", Host: parts[2], Port: unwritten}
	if parts[3] == "" {
		return o, true
	}
	o.Port, _ = strconv.Atoi(parts[4])
	if o.Port > 65535 || o.Port == unwritten {
		return impl.Origin{}, false
	}
	return o, true
}

func expectedRegistrable(host string) string {
	if !expectedHost(host) {
		return ""
	}
	labels := strings.Split(host, ".")
	return strings.Join(labels[max(0, len(labels)-2):], ".")
}

// expectedMayUse compares the labels of the host and of the site from the last ones on.
func expectedMayUse(o impl.Origin, site string) bool {
	has, wanted := strings.Split(o.Host, "."), strings.Split(site, ".")
	if !expectedValid(o) || !o.Secure || !expectedHost(site) || len(wanted) < 2 || len(has) < len(wanted) {
		return false
	}
	return slices.Equal(has[len(has)-len(wanted):], wanted)
}

func expectedSiteHash(site string) int {
	values := []int{len(site)}
	for _, c := range []byte(site) {
		values = append(values, int(c))
	}
	return max(1, expectedKeyedHash(173, values...))
}

func secureAt(host string) impl.Origin {
	return impl.Origin{Secure: true, Host: host, Port: 443}
}

func plainAt(host string) impl.Origin {
	return impl.Origin{Host: host, Port: 80}
}

func repeated(s string, count int) string {
	return strings.Repeat(s, count)
}

// hostOfLength has labels of ten bytes, so that no length from 56 to 65 ends with a dot.
func hostOfLength(length int) string {
	return repeated("abcdefghi0.", 6)[:length]
}

func someHosts() []string {
	return []string{
		"a", "z", "0", "9", "com", "localhost", "42", "a-b", "a--b", "1-1", "x0-9z",
		"a.b", "0.9", "bank.com", "x-y.io", "evil-site.com", "a.com", "ank.com", "site.com", "evilsite.com",
		"www.site.com", "www.bank.com", "1.2.3", "a.a.a", "a.b.shop.org", "10.0.0.1", "a-1.b-2.c-3.d-4",
		"xn--bcher-kva.example", "bank.com.evil.net", "site.com.site.com",
		repeated("a", 20), "a" + repeated("-", 18) + "9", repeated("a", 20) + "." + repeated("b", 20), "a." + repeated("0", 20) + ".c",
		hostOfLength(59), hostOfLength(60), repeated("a.", 29) + "aa", repeated("a", 20) + "." + repeated("b", 20) + "." + repeated("c", 18),
	}
}

func notHosts() []string {
	return []string{
		"", ".", "..", "...", "-", "--", "a.", ".a", "a..b", "a...b", "a.b.", ".a.b", "..a", "a..",
		"-a", "a-", "-a.b", "a-.b", "a.-b", "a.b-", "a.-", "-.a", "a.-.b", ".-", "-.", "a.-b.c", "a.b-.c",
		repeated("a", 21), "a" + repeated("-", 19) + "9", repeated("a", 21) + ".b", "a." + repeated("b", 21), "a." + repeated("b", 21) + ".c", repeated("a", 60),
		hostOfLength(61), hostOfLength(62), repeated("a.", 30) + "a", repeated("a.", 30), repeated("a", 20) + "." + repeated("b", 20) + "." + repeated("c", 19), repeated("a.", 5000) + "a",
		"A", "Z", "Bank.com", "bank.Com", "bank.coM", "BANK.COM", "a_b", "_", "a._b", " ", "a b", " a", "a ", "a. b", "\x00", "a\x00", "a\n", "\ta", "a.b\r\n",
		"a/b", "a:b", "a:80", "a@b", "a,b", "a+b", "*.a", "%61", "[::1]", "`", "{", "/", ":", "https://a",
		"\x80", "a\x80b", "\xff", "\xffa", "a\xff", "a\xc3", "\xc3.a", "a.\xed\xa0\x80", "\xc0\xae", "a\xc0\xaeb",
		"\u00e9", "caf\u00e9.com", "b\u00fccher.de", "\u65e5\u672c.jp", "\U0001f511", "a.\U0001f511", "\ufffd", "\u0430pple.com", "\uff41", "\u0663", "\u017f", "\u0161", "\u0130", "a\u3002b", "a\u2010b", "\u0130.a", "a\u012eb", "a\u012db", "\U00010061",
	}
}

func badPorts() []int {
	return []int{0, 65536, 65537, -1, -80, -443, -65535, 1000000, 1 << 32, 1<<32 + 80, 1<<32 + 443, math.MaxInt, math.MinInt, math.MinInt + 443}
}

func goodPorts() []int {
	return []int{1, 2, 79, 80, 81, 442, 443, 444, 999, 8080, 8443, 10000, 65534, 65535}
}

func someOrigins() []impl.Origin {
	list := []impl.Origin{}
	for _, host := range someHosts() {
		for _, port := range []int{1, 80, 443, 8080, 65535} {
			list = append(list, impl.Origin{Secure: true, Host: host, Port: port}, impl.Origin{Host: host, Port: port})
		}
	}
	return list
}

func notOrigins() []impl.Origin {
	list := []impl.Origin{{}, {Secure: true}, {Host: "bank.com"}, {Port: 80}, {Secure: true, Port: 443}}
	for _, host := range notHosts() {
		list = append(list, secureAt(host), plainAt(host), impl.Origin{Secure: true, Host: host, Port: 0})
	}
	for _, port := range badPorts() {
		list = append(list, impl.Origin{Secure: true, Host: "bank.com", Port: port}, impl.Origin{Host: "a", Port: port})
	}
	return list
}

// madeOf has every string of up to length of the pieces.
func madeOf(length int, pieces ...string) []string {
	list := []string{""}
	from := 0
	for range length {
		end := len(list)
		for _, s := range list[from:end] {
			for _, piece := range pieces {
				list = append(list, s+piece)
			}
		}
		from = end
	}
	return list
}

func checkHost(t *testing.T, s string, want bool) {
	t.Helper()
	if got := impl.IsHost(s); got != want {
		t.Errorf("IsHost(%q) = %v, want %v", s, got, want)
	}
}

func checkValidOrigin(t *testing.T, o impl.Origin, want bool) {
	t.Helper()
	if got := impl.IsOrigin(o); got != want {
		t.Errorf("IsOrigin(%+v) = %v, want %v", o, got, want)
	}
}

func checkText(t *testing.T, o impl.Origin, want string) {
	t.Helper()
	if got := impl.FormatOrigin(o); got != want {
		t.Errorf("FormatOrigin(%+v) = %q, want %q", o, got, want)
	}
}

func checkOrigin(t *testing.T, s string, want impl.Origin) {
	t.Helper()
	if got, ok := impl.ParseOrigin(s); !ok || got != want {
		t.Errorf("ParseOrigin(%q) = %+v, %v, want %+v, true", s, got, ok, want)
	}
}

func checkNoOrigin(t *testing.T, s string) {
	t.Helper()
	if got, ok := impl.ParseOrigin(s); ok || got != (impl.Origin{}) {
		t.Errorf("ParseOrigin(%q) = %+v, %v, want the zero Origin, false", s, got, ok)
	}
}

// checkAsExpected takes any text and compares what ParseOrigin makes of it with the pattern.
func checkAsExpected(t *testing.T, s string) {
	t.Helper()
	if want, ok := expectedOrigin(s); ok {
		checkOrigin(t, s, want)
	} else {
		checkNoOrigin(t, s)
	}
}

func checkRegistrable(t *testing.T, host string, want string) {
	t.Helper()
	if got := impl.Registrable(host); got != want {
		t.Errorf("Registrable(%q) = %q, want %q", host, got, want)
	}
}

func checkSameSite(t *testing.T, a impl.Origin, b impl.Origin, want bool) {
	t.Helper()
	if got := impl.IsSameSite(a, b); got != want {
		t.Errorf("IsSameSite(%+v, %+v) = %v, want %v", a, b, got, want)
	}
	if got := impl.IsSameSite(b, a); got != want {
		t.Errorf("IsSameSite(%+v, %+v) = %v, want %v", b, a, got, want)
	}
}

func checkMayUse(t *testing.T, o impl.Origin, site string, want bool) {
	t.Helper()
	if got := impl.MayUse(o, site); got != want {
		t.Errorf("MayUse(%+v, %q) = %v, want %v", o, site, got, want)
	}
}

func checkSiteHash(t *testing.T, site string, want int) {
	t.Helper()
	if got := impl.SiteHash(site); got != want {
		t.Errorf("SiteHash(%q) = %d, want %d", site, got, want)
	}
}

func TestMaxHost(t *testing.T) {
	if impl.MaxHost != 60 {
		t.Errorf("MaxHost = %d", impl.MaxHost)
	}
}

func TestIsHost(t *testing.T) {
	for _, s := range someHosts() {
		checkHost(t, s, true)
	}
	for _, s := range notHosts() {
		checkHost(t, s, false)
	}
}

func TestIsHostOfEveryLabelLength(t *testing.T) {
	for length := range 45 {
		label := repeated("a", length)
		fits := length >= 1 && length <= 20
		for _, host := range []string{label, label + ".b", "b." + label, "b." + label + ".c", label + "." + label} {
			checkHost(t, host, fits)
		}
		checkHost(t, "a"+repeated("-", length)+"b", length <= 18)
	}
}

// The length of a label is counted from each dot anew.
func TestIsHostCountsEachLabel(t *testing.T) {
	for _, first := range []int{1, 10, 19, 20, 21} {
		for _, second := range []int{1, 10, 18, 19, 20, 21} {
			host := repeated("a", first) + "." + repeated("b", second) + ".c"
			checkHost(t, host, first <= 20 && second <= 20)
		}
	}
}

func TestIsHostOfEveryLength(t *testing.T) {
	for length := 56; length <= 65; length++ {
		checkHost(t, hostOfLength(length), length <= 60)
	}
	for count := 1; count < 100; count++ {
		checkHost(t, repeated("a.", count-1)+"a", count <= 30)
		checkHost(t, repeated("a.", count-1)+"ab", count <= 30)
		checkHost(t, repeated("a.", count-1)+"abc", count <= 29)
	}
}

func TestIsHostOfAllShortStrings(t *testing.T) {
	for _, s := range madeOf(5, "a", "z", "0", "-", ".", "A", "\xc3", "\u00e9") {
		checkHost(t, s, expectedHost(s))
	}
	for _, s := range madeOf(9, "a", "-", ".") {
		checkHost(t, s, expectedHost(s))
	}
}

func TestIsHostOfEveryByte(t *testing.T) {
	for a := range 256 {
		x := string([]byte{byte(a)})
		for _, s := range []string{x, "a" + x, x + "a", "a" + x + "b", "a." + x, "a." + x + ".b", "a.b" + x} {
			checkHost(t, s, expectedHost(s))
		}
		for b := range 256 {
			y := string([]byte{byte(a), byte(b)})
			checkHost(t, y, expectedHost(y))
			checkHost(t, "a"+y+"b", expectedHost("a"+y+"b"))
		}
	}
}

// Like the other long loops, this one ends at the first wrong result, so that a failure can be read.
func TestIsHostOfEveryRune(t *testing.T) {
	for r := rune(0); r <= utf8.MaxRune && !t.Failed(); r++ {
		isPlain := r >= 'a' && r <= 'z' || r >= '0' && r <= '9'
		checkHost(t, string(r), isPlain)
		checkHost(t, "a"+string(r)+"b", isPlain || r == '-' || r == '.')
	}
}

func TestIsOrigin(t *testing.T) {
	for _, o := range someOrigins() {
		checkValidOrigin(t, o, true)
	}
	for _, o := range notOrigins() {
		checkValidOrigin(t, o, false)
	}
}

func TestIsOriginOfEveryPort(t *testing.T) {
	for _, host := range []string{"a", "bank.com", hostOfLength(60)} {
		for port := -10; port <= 65550 && !t.Failed(); port++ {
			want := port >= 1 && port <= 65535
			checkValidOrigin(t, impl.Origin{Secure: true, Host: host, Port: port}, want)
			checkValidOrigin(t, impl.Origin{Host: host, Port: port}, want)
		}
	}
	for _, port := range goodPorts() {
		for _, host := range notHosts() {
			checkValidOrigin(t, impl.Origin{Secure: true, Host: host, Port: port}, false)
		}
	}
}

func TestFormatAndParseOrigin(t *testing.T) {
	for text, o := range map[string]impl.Origin{
		"https://bank.com":         {Secure: true, Host: "bank.com", Port: 443},
		"https://bank.com:80":      {Secure: true, Host: "bank.com", Port: 80},
		"https://bank.com:8443":    {Secure: true, Host: "bank.com", Port: 8443},
		"http://bank.com":          {Host: "bank.com", Port: 80},
		"http://bank.com:443":      {Host: "bank.com", Port: 443},
		"http://bank.com:8080":     {Host: "bank.com", Port: 8080},
		"https://a:1":              {Secure: true, Host: "a", Port: 1},
		"http://a:1":               {Host: "a", Port: 1},
		"https://a.b:65535":        {Secure: true, Host: "a.b", Port: 65535},
		"http://a.b:65535":         {Host: "a.b", Port: 65535},
		"https://www.x-y.io:10":    {Secure: true, Host: "www.x-y.io", Port: 10},
		"http://localhost":         {Host: "localhost", Port: 80},
		"http://10.0.0.1:44":       {Host: "10.0.0.1", Port: 44},
		"https://https":            {Secure: true, Host: "https", Port: 443},
		"http://https":             {Host: "https", Port: 80},
		"https://http:4433":        {Secure: true, Host: "http", Port: 4433},
		"https://443:8":            {Secure: true, Host: "443", Port: 8},
		"http://80:443":            {Host: "80", Port: 443},
		"https://a-b.c--d.9:44300": {Secure: true, Host: "a-b.c--d.9", Port: 44300},
	} {
		checkText(t, o, text)
		checkOrigin(t, text, o)
	}
	long := hostOfLength(60)
	checkText(t, secureAt(long), "https://"+long)
	checkOrigin(t, "https://"+long+":65535", impl.Origin{Secure: true, Host: long, Port: 65535})
}

func TestParseOriginInvertsFormatOrigin(t *testing.T) {
	for _, o := range someOrigins() {
		text := impl.FormatOrigin(o)
		if want, ok := expectedOrigin(text); !ok || want != o {
			t.Errorf("FormatOrigin(%+v) = %q, the text of %+v, %v", o, text, want, ok)
		}
		checkOrigin(t, text, o)
	}
}

func TestFormatAndParseOriginOfEveryPort(t *testing.T) {
	for port := 1; port <= 65535 && !t.Failed(); port++ {
		secure, plain := ":"+strconv.Itoa(port), ":"+strconv.Itoa(port)
		if port == 443 {
			secure = ""
		}
		if port == 80 {
			plain = ""
		}
		o := impl.Origin{Secure: true, Host: "a.b", Port: port}
		checkText(t, o, "https://a.b"+secure)
		checkOrigin(t, "https://a.b"+secure, o)
		o.Secure = false
		checkText(t, o, "http://a.b"+plain)
		checkOrigin(t, "http://a.b"+plain, o)
	}
}

func TestTextsOfOriginsDiffer(t *testing.T) {
	origins := map[string]impl.Origin{}
	for _, o := range someOrigins() {
		text := impl.FormatOrigin(o)
		if other, ok := origins[text]; ok {
			t.Errorf("%+v and %+v have the text %q", o, other, text)
		}
		origins[text] = o
	}
}

func TestFormatOriginOfNoOrigin(t *testing.T) {
	for _, o := range notOrigins() {
		checkText(t, o, "")
	}
	for port := -10; port < 1; port++ {
		checkText(t, impl.Origin{Secure: true, Host: "a.b", Port: port}, "")
	}
}

func TestParseOriginWithoutAScheme(t *testing.T) {
	for _, s := range []string{
		"", "a", "bank.com", "bank.com:80", "bank.com:8080", ":80", ":", "/", "//", "//bank.com", "://bank.com", ":443", "80", "443",
		"http", "https", "http:", "https:", "http:/", "https:/", "https:a", "https:/bank.com", "http:bank.com", "http:/bank.com", "https//bank.com", "httpsbank.com", "httpbank.com",
		"ftp://bank.com", "ws://bank.com", "wss://bank.com", "file://bank.com", "httpx://bank.com", "httpss://bank.com", "xhttps://bank.com", "ttps://bank.com", "s://bank.com",
		"HTTPS://bank.com", "HTTP://bank.com", "Https://bank.com", "Http://bank.com", "httpS://bank.com", "htTp://bank.com",
		" https://bank.com", "\thttp://bank.com", "\x00https://bank.com", "\ufeffhttps://bank.com", "https ://bank.com", "https: //bank.com", "https:\\\\bank.com",
		"http://http://bank.com", "https://https://bank.com", "https://http://bank.com", "http://https://bank.com", "https:///bank.com", "http:////bank.com",
	} {
		checkNoOrigin(t, s)
	}
}

func TestParseOriginWithMore(t *testing.T) {
	for _, base := range []string{"https://bank.com", "http://bank.com", "https://bank.com:8443", "http://a:443"} {
		if _, ok := impl.ParseOrigin(base); !ok {
			t.Errorf("ParseOrigin(%q) fails", base)
		}
		for _, more := range []string{"/", "/path", "/a.b", "?", "?x=1", "#", "#top", " ", "\n", "\x00", ".", "-", ":", "::", ":/", ":x", ";80", "@evil.net", "\u00e9", "\xff", ":80:80", ":8080:80", ":1:1", ":8443:8443", ",a"} {
			checkNoOrigin(t, base+more)
		}
	}
}

func TestParseOriginWithoutAHost(t *testing.T) {
	for _, host := range append(notHosts(), "user@bank.com", "user:name@bank.com", "bank.com:", ":bank.com", "/bank.com", "bank.com/") {
		for _, scheme := range []string{"https://", "http://"} {
			for _, port := range []string{"", ":8080", ":1"} {
				// "https://a:80" is the text of an origin.
				if host+port != "a:80" {
					checkNoOrigin(t, scheme+host+port)
				}
			}
		}
	}
	for _, s := range []string{"https://", "http://", "https://:", "http://:", "https://:443", "https://:80", "http://:80", "http://:8080", "https://.", "https://.:80"} {
		checkNoOrigin(t, s)
	}
}

func TestParseOriginWithABadPort(t *testing.T) {
	for _, port := range []string{
		"", "0", "00", "01", "08", "080", "0443", "08080", "00000000000000000000000080", "+80", "-80", "+8080", "-1", "-0", "+", "-", "8+", "8-0",
		"65536", "65537", "99999", "100000", "4294967297", "4294967376", "4294967739", "999999999999", "1000000000000", "1000000000001",
		"9223372036854775807", "9223372036854775808", "18446744073709551616", "18446744073709551617", "18446744073709551696", "18446744073709552059", repeated("9", 40), "8" + repeated("0", 5000), repeated("0", 5000) + "8",
		" 8080", "8080 ", "80 80", "8e3", "0x50", "0b1", "0o7", "8080a", "a8080", "a", "x", "8.0", "80.", "8,0", "8_0", "8'0", "\uff18\uff10", "\u0668", "8\x000", "8\xff", "8\n", "%38", "http", "*",
	} {
		for _, start := range []string{"https://a.b:", "http://a.b:", "https://localhost:", "http://www.bank.com:"} {
			checkNoOrigin(t, start+port)
		}
	}
}

func TestParseOriginWithThePortThatIsNotWritten(t *testing.T) {
	for _, host := range someHosts() {
		checkNoOrigin(t, "https://"+host+":443")
		checkNoOrigin(t, "http://"+host+":80")
		checkOrigin(t, "https://"+host, secureAt(host))
		checkOrigin(t, "http://"+host, plainAt(host))
		checkOrigin(t, "https://"+host+":80", impl.Origin{Secure: true, Host: host, Port: 80})
		checkOrigin(t, "http://"+host+":443", impl.Origin{Host: host, Port: 443})
	}
}

// Each text is changed in each place; some of the changes give the text of another origin.
func TestParseOriginOfChangedTexts(t *testing.T) {
	pieces := []string{"", "a", "s", "A", "0", "1", "3", "8", "9", "443", "80", "-", ".", ":", "/", "//", " ", "_", "\u00e9", "\xff", "\x00"}
	for _, text := range []string{"https://bank.com", "http://bank.com", "https://a:80", "http://a-b.c9:443", "https://x.y:65535", "http://x.y:6553", "https://a.b:44", "http://a.b:8", hostOfLength(60), "https://" + hostOfLength(60) + ":1"} {
		for i := range len(text) + 1 {
			for _, piece := range pieces {
				checkAsExpected(t, text[:i]+piece+text[i:])
				checkAsExpected(t, text[:i]+piece+text[min(i+1, len(text)):])
				checkAsExpected(t, text[:i]+piece)
				checkAsExpected(t, piece+text[i:])
			}
		}
	}
}

func TestParseOriginOfAllShortEnds(t *testing.T) {
	for _, s := range madeOf(6, "a", ".", ":", "0", "8", "/") {
		checkAsExpected(t, "https://"+s)
		checkAsExpected(t, "http://"+s)
		checkAsExpected(t, s)
	}
}

func TestRegistrable(t *testing.T) {
	for host, want := range map[string]string{
		"a":                 "a",
		"localhost":         "localhost",
		"42":                "42",
		"a.b":               "a.b",
		"bank.com":          "bank.com",
		"www.bank.com":      "bank.com",
		"a.b.shop.org":      "shop.org",
		"a.b.c":             "b.c",
		"a.a.a.a":           "a.a",
		"bank.com.evil.net": "evil.net",
		"x.x-y.i-o":         "x-y.i-o",
		"10.0.0.1":          "0.1",
	} {
		checkRegistrable(t, host, want)
	}
	checkRegistrable(t, repeated("a", 20), repeated("a", 20))
	checkRegistrable(t, "x."+repeated("a", 20)+"."+repeated("b", 20), repeated("a", 20)+"."+repeated("b", 20))
	checkRegistrable(t, repeated("a.", 29)+"bc", "a.bc")
}

func TestRegistrableFollowsItsDefinition(t *testing.T) {
	for _, host := range slices.Concat(someHosts(), notHosts(), madeOf(7, "a", "b", ".", "-")) {
		want := expectedRegistrable(host)
		checkRegistrable(t, host, want)
		checkRegistrable(t, want, want)
	}
}

func TestRegistrableOfNoHost(t *testing.T) {
	for _, s := range append(notHosts(), "www..bank.com", ".bank.com", "bank.com.", "www.bank.com.", "-.bank.com", "WWW.bank.com", "w\u00e9b.bank.com", "https://bank.com", "bank.com:80", repeated("a", 21)+".bank.com", repeated("a.", 27)+"bank.com") {
		checkRegistrable(t, s, "")
	}
}

func TestIsSameSite(t *testing.T) {
	bank := secureAt("bank.com")
	for _, o := range []impl.Origin{bank, secureAt("www.bank.com"), secureAt("a.b.c.bank.com"), secureAt("bank.bank.com"), {Secure: true, Host: "bank.com", Port: 8443}, {Secure: true, Host: "x.bank.com", Port: 80}, {Secure: true, Host: "bank.com", Port: 1}, {Secure: true, Host: "bank.com", Port: 65535}} {
		checkSameSite(t, bank, o, true)
	}
	for _, o := range []impl.Origin{
		plainAt("bank.com"), plainAt("www.bank.com"), {Host: "bank.com", Port: 443}, {Secure: true, Host: "bank.com"},
		secureAt("bank.org"), secureAt("ank.com"), secureAt("evilbank.com"), secureAt("www.bank.org"), secureAt("bank.com.evil.net"), secureAt("bank"), secureAt("com"), secureAt("bank-com"), secureAt("com.bank"), secureAt(""), secureAt(".bank.com"), secureAt("Bank.com"),
	} {
		checkSameSite(t, bank, o, false)
	}
	checkSameSite(t, secureAt("localhost"), secureAt("localhost"), true)
	checkSameSite(t, secureAt("localhost"), secureAt("a.localhost"), false)
	checkSameSite(t, secureAt("b.localhost"), secureAt("a.localhost"), false)
	checkSameSite(t, secureAt("c.a.localhost"), secureAt("a.localhost"), true)
	checkSameSite(t, plainAt("www.bank.com"), plainAt("mail.bank.com"), true)
	checkSameSite(t, plainAt("www.bank.com"), impl.Origin{Host: "bank.com", Port: 443}, true)
	checkSameSite(t, plainAt("www.bank.com"), plainAt("www.shop.com"), false)
}

func TestIsSameSiteFollowsItsDefinition(t *testing.T) {
	list := someOrigins()
	for i, a := range list {
		for _, b := range list[:i+1] {
			checkSameSite(t, a, b, a.Secure == b.Secure && expectedRegistrable(a.Host) == expectedRegistrable(b.Host))
		}
	}
}

// Two strings that are no hosts have the same Registrable, the empty string.
func TestIsSameSiteWithNoOrigin(t *testing.T) {
	list := notOrigins()
	for i, o := range list {
		for _, other := range list[:i+1] {
			checkSameSite(t, o, other, false)
		}
		for _, other := range []impl.Origin{secureAt("bank.com"), plainAt("a"), secureAt("a"), plainAt("bank.com")} {
			checkSameSite(t, o, other, false)
		}
	}
}

func TestMayUse(t *testing.T) {
	for _, host := range []string{"site.com", "www.site.com", "a.site.com", "a.b.c.site.com", "site.com.site.com", "evil.site.com", "0.site.com", "com.site.com"} {
		for _, port := range goodPorts() {
			checkMayUse(t, impl.Origin{Secure: true, Host: host, Port: port}, "site.com", true)
		}
	}
	checkMayUse(t, secureAt("www.site.com"), "www.site.com", true)
	checkMayUse(t, secureAt("a.www.site.com"), "www.site.com", true)
	checkMayUse(t, secureAt("a.a"), "a.a", true)
	checkMayUse(t, secureAt("a.a.a"), "a.a", true)
	checkMayUse(t, secureAt("a.b.c"), "b.c", true)
	long := repeated("a.", 29) + "aa"
	checkMayUse(t, secureAt(long), long, true)
	checkMayUse(t, secureAt(long), long[2:], true)
	checkMayUse(t, secureAt(long), "a.aa", true)
}

func TestMayUseOfAnotherSite(t *testing.T) {
	for _, host := range []string{
		"evilsite.com", "0site.com", "-site.com", "evil-site.com", "esite.com", "www.evilsite.com", "www-site.com", "site.com.evil.net", "site.com-evil.net", "site.comm", "site.co", "site.org", "site", "com", "com.site", "ite.com", "e.com", "sitecom", "site-com", "www.site.com.net", "www.com", "site.www.com", "sit.ecom", "s.ite.com", "site.c.om",
		"", ".", ".site.com", "site.com.", "Site.com", "SITE.COM", "site..com", "www..site.com", ".www.site.com", "www.-.site.com", "w_w.site.com", " site.com", "site.com ", "\u0455ite.com", "site\u3002com", "\xff.site.com", "\u00e9.site.com", repeated("a", 21) + ".site.com", repeated("a.", 27) + "site.com",
	} {
		checkMayUse(t, secureAt(host), "site.com", false)
	}
}

func TestMayUseOfALongerSite(t *testing.T) {
	for _, site := range []string{"www.site.com", "a.site.com", "xsite.com", "site.com.site.com", "evilsite.com", "site.com.net", repeated("a.", 20) + "site.com"} {
		checkMayUse(t, secureAt("site.com"), site, false)
	}
	long := repeated("a.", 29) + "aa"
	checkMayUse(t, secureAt("a.aa"), long, false)
	checkMayUse(t, secureAt(long[2:]), long, false)
}

func TestMayUseOfASiteWithOneLabel(t *testing.T) {
	for _, host := range []string{"com", "localhost", "site.com", "www.site.com", "a.localhost", "a", "a.a", "a.a.a"} {
		for _, site := range []string{"com", "localhost", "a", "m", "site", "ite"} {
			checkMayUse(t, secureAt(host), site, false)
		}
	}
}

func TestMayUseOfNoSite(t *testing.T) {
	for _, host := range append(someHosts(), notHosts()...) {
		for _, site := range notHosts() {
			checkMayUse(t, secureAt(host), site, false)
		}
	}
	for _, site := range []string{"", ".", "..", ".com", ".site.com", "site.com.", "ite.com", ".m", "m", "e.com", "site..com", "-.com", "www.site.com:443", "https://www.site.com", "*.site.com", "WWW.SITE.COM", "Site.com"} {
		checkMayUse(t, secureAt("www.site.com"), site, false)
	}
}

func TestMayUseOfAPlainOrigin(t *testing.T) {
	for _, host := range someHosts() {
		for _, port := range goodPorts() {
			checkMayUse(t, impl.Origin{Host: host, Port: port}, host, false)
			checkMayUse(t, impl.Origin{Host: host, Port: port}, expectedRegistrable(host), false)
		}
	}
}

func TestMayUseWithNoOrigin(t *testing.T) {
	for _, o := range notOrigins() {
		for _, site := range []string{o.Host, "bank.com", "a.b", ""} {
			checkMayUse(t, o, site, false)
		}
	}
	for _, port := range badPorts() {
		checkMayUse(t, impl.Origin{Secure: true, Host: "www.site.com", Port: port}, "site.com", false)
		checkMayUse(t, impl.Origin{Secure: true, Host: "site.com", Port: port}, "site.com", false)
	}
}

func TestMayUseFollowsItsDefinition(t *testing.T) {
	for _, o := range someOrigins() {
		for _, site := range someHosts() {
			checkMayUse(t, o, site, expectedMayUse(o, site))
		}
	}
	short := madeOf(5, "a", "b", ".", "-")
	for _, host := range short {
		if expectedHost(host) {
			for _, site := range short {
				checkMayUse(t, secureAt(host), site, expectedMayUse(secureAt(host), site))
			}
		}
	}
}

// A page that may use the keys of a site belongs to the same site as the site's own pages.
func TestMayUseOnlyOfTheSameSite(t *testing.T) {
	for _, o := range someOrigins() {
		for _, site := range slices.Concat(someHosts(), notHosts()) {
			if impl.MayUse(o, site) && !impl.IsSameSite(o, secureAt(site)) {
				t.Errorf("%+v may use the keys of %q, which is another site", o, site)
			}
		}
	}
}

func TestSiteHash(t *testing.T) {
	for site, want := range map[string]int{
		"a.b":          1507301877,
		"site.com":     1392417903,
		"evilsite.com": 1300381515,
		"www.site.com": 2105113264,
		"bank.com":     1941999745,
		"com":          1824914974,
		"":             1935645424,
		".":            964947605,
		"A.b":          133580230,
		"\u00e9":       1132099663,
		"\x00":         918947467,
		"\xff":         1173948232,
	} {
		checkSiteHash(t, site, want)
	}
}

func TestSiteHashFollowsItsDefinition(t *testing.T) {
	for _, site := range slices.Concat(someHosts(), notHosts(), derivingLabels()) {
		checkSiteHash(t, site, expectedSiteHash(site))
		checkSiteHash(t, site, impl.DeriveFromString(173, site))
		if !impl.IsValidKey(impl.SiteHash(site)) {
			t.Errorf("SiteHash(%q) = %d is no valid key", site, impl.SiteHash(site))
		}
	}
}

// The keyed hash of these hosts is 0.
func TestSiteHashIsNeverZero(t *testing.T) {
	for _, site := range []string{"lisagtt.com", "xxkopfh.com", "juttphn.com", "kliwync.com"} {
		checkHost(t, site, true)
		checkKeyedHash(t, 0, 173, impl.BytesToInts([]byte(site))...)
		checkSiteHash(t, site, 1)
	}
}

func TestSiteHashDiffersForSites(t *testing.T) {
	sites := map[int]string{}
	for _, site := range slices.Concat(someHosts(), notHosts(), madeOf(4, "a", "b", ".", "-", "A")) {
		hash := impl.SiteHash(site)
		if other, ok := sites[hash]; ok && other != site {
			t.Errorf("%q and %q have the hash %d", site, other, hash)
		}
		sites[hash] = site
	}
}

// Between the two calls with the same arguments there are others, of which nothing may be left.
func TestOriginFunctionsKeepNoState(t *testing.T) {
	for range 3 {
		checkHost(t, "bank.com", true)
		checkHost(t, "bank..com", false)
		checkText(t, secureAt("bank.com"), "https://bank.com")
		checkText(t, impl.Origin{}, "")
		checkOrigin(t, "http://a.b:443", impl.Origin{Host: "a.b", Port: 443})
		checkNoOrigin(t, "a.b")
		checkRegistrable(t, "www.bank.com", "bank.com")
		checkSameSite(t, secureAt("www.bank.com"), secureAt("bank.com"), true)
		checkMayUse(t, secureAt("www.bank.com"), "bank.com", true)
		checkMayUse(t, secureAt("evilbank.com"), "bank.com", false)
		checkSiteHash(t, "bank.com", 1941999745)
		for _, s := range slices.Concat(someHosts(), notHosts()) {
			impl.ParseOrigin(impl.FormatOrigin(secureAt(s)))
			impl.Registrable(s)
			impl.MayUse(secureAt(s), s)
			impl.SiteHash(s)
		}
	}
}

func TestOriginFunctionsReturnForAllArguments(t *testing.T) {
	texts := slices.Concat(derivingLabels(), notHosts(), []string{"a", "bank.com", hostOfLength(60), repeated("a", 100000), repeated(".", 100000), repeated(":", 100000), "https://" + repeated("a.", 50000), "http://a:" + repeated("1", 100000), repeated("https://", 10000)})
	for _, s := range texts {
		if t.Failed() {
			return
		}
		checkHost(t, s, expectedHost(s))
		checkAsExpected(t, s)
		checkAsExpected(t, "https://"+s)
		checkAsExpected(t, "http://a:"+s)
		checkRegistrable(t, s, expectedRegistrable(s))
		checkSiteHash(t, s, impl.DeriveFromString(173, s))
		for _, port := range slices.Concat(badPorts(), goodPorts(), anyInts()) {
			checkAnyOrigin(t, impl.Origin{Secure: true, Host: s, Port: port})
			checkAnyOrigin(t, impl.Origin{Host: s, Port: port})
		}
	}
}

func checkAnyOrigin(t *testing.T, o impl.Origin) {
	t.Helper()
	valid := expectedValid(o)
	checkValidOrigin(t, o, valid)
	checkSameSite(t, o, o, valid)
	checkMayUse(t, o, o.Host, expectedMayUse(o, o.Host))
	checkMayUse(t, secureAt("bank.com"), o.Host, o.Host == "bank.com")
	text := impl.FormatOrigin(o)
	if want, ok := expectedOrigin(text); ok != valid || valid && want != o || !valid && text != "" {
		t.Errorf("FormatOrigin(%+v) = %q", o, text)
	}
}
