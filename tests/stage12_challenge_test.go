package tests

import (
	"math"
	"slices"
	"testing"

	"loop.example/g00581/impl"
)

const (
	maxOpen       = 16
	challengeLife = 5
	maxTime       = 1000000
	lastTime      = maxTime + challengeLife
)

func challengeOf(id int, account int, until int) impl.Challenge {
	return impl.Challenge{Id: id, Account: account, Until: until}
}

func bookOf(next int, open ...impl.Challenge) impl.ChallengeBook {
	return impl.ChallengeBook{Seed: 7, Next: next, Open: open}
}

// bookOfSize has gaps between its Ids, and its times are in another order than they are.
func bookOfSize(size int) impl.ChallengeBook {
	open := []impl.Challenge{}
	for i := range size {
		open = append(open, challengeOf(3*i+1, 20+i%5, 100+i*7%16))
	}
	return bookOf(3*size+2, open...)
}

// bookFrom has the Ids from first on and nothing after them.
func bookFrom(first int, size int) impl.ChallengeBook {
	open := []impl.Challenge{}
	for id := first; id < first+size; id++ {
		open = append(open, challengeOf(id, 3, 15))
	}
	return bookOf(first+size, open...)
}

func validBooks() []impl.ChallengeBook {
	list := []impl.ChallengeBook{{}, {Seed: 7, Next: 5, Open: []impl.Challenge{}}}
	for _, seed := range append(anyInts(), impl.Modulus, lastKey) {
		list = append(list, impl.ChallengeBook{Seed: seed, Next: 9}, impl.ChallengeBook{Seed: seed, Next: 9, Open: bookOfSize(2).Open})
	}
	for size := range maxOpen + 1 {
		list = append(list, bookOfSize(size), bookFrom(0, size), bookFrom(maxCounter-size, size), bookFrom(maxCounter-1-size, size))
	}
	for _, next := range []int{1, 2, maxCounter - 1, maxCounter} {
		for _, n := range []int{0, 1, maxTime, maxTime + 1, lastTime} {
			list = append(list, bookOf(next, challengeOf(0, n, 15)), bookOf(next, challengeOf(0, 3, n)), bookOf(next, challengeOf(next-1, n, n)))
		}
	}
	return append(list, bookOf(maxCounter, challengeOf(0, 3, 15), challengeOf(maxCounter-1, 3, 15)))
}

func changedAt(b impl.ChallengeBook, place int, changed impl.Challenge) impl.ChallengeBook {
	b.Open = slices.Clone(b.Open)
	b.Open[place] = changed
	return b
}

// invalidBooks break one rule each, the rules about a challenge at every place.
func invalidBooks() []impl.ChallengeBook {
	list := []impl.ChallengeBook{bookOf(0, challengeOf(0, 3, 15)), bookOf(2, challengeOf(0, 3, 15), challengeOf(2, 3, 15))}
	for _, next := range beyondRange(maxCounter) {
		list = append(list, bookOf(next))
		if next > 0 {
			list = append(list, bookOf(next, challengeOf(0, 3, 15)), bookOf(next, challengeOf(next-1, 3, 15)))
		}
	}
	for _, size := range []int{maxOpen + 1, maxOpen + 2, 2 * maxOpen, 300} {
		list = append(list, bookOfSize(size), bookFrom(0, size), bookFrom(maxCounter-1-size, size))
	}
	for _, b := range []impl.ChallengeBook{bookOfSize(1), bookOfSize(3), bookOfSize(maxOpen), bookFrom(5, maxOpen)} {
		for i, c := range b.Open {
			for _, n := range beyondRange(lastTime) {
				list = append(list, changedAt(b, i, challengeOf(c.Id, n, c.Until)), changedAt(b, i, challengeOf(c.Id, c.Account, n)))
			}
		}
		list = append(list, booksOfWrongIds(b)...)
	}
	return list
}

func booksOfWrongIds(b impl.ChallengeBook) []impl.ChallengeBook {
	list := []impl.ChallengeBook{}
	last := len(b.Open) - 1
	for _, id := range []int{-1, -2, -maxCounter, math.MinInt} {
		list = append(list, changedAt(b, 0, challengeOf(id, 3, 15)))
	}
	for _, id := range []int{b.Next, b.Next + 1, maxCounter, math.MaxInt} {
		list = append(list, changedAt(b, last, challengeOf(id, 3, 15)))
	}
	for i := range last {
		list = append(list, changedAt(b, i, challengeOf(b.Open[i+1].Id, 3, 15)), changedAt(b, i+1, challengeOf(b.Open[i].Id, 3, 15)))
		list = append(list, changedAt(changedAt(b, i, b.Open[i+1]), i+1, b.Open[i]))
	}
	return list
}

func expectedValidBook(b impl.ChallengeBook) bool {
	for i, c := range b.Open {
		if c.Id < 0 || c.Id >= b.Next || i > 0 && c.Id <= b.Open[i-1].Id {
			return false
		}
		if c.Account < 0 || c.Account > 1000005 || c.Until < 0 || c.Until > 1000005 {
			return false
		}
	}
	return b.Next >= 0 && b.Next <= 1000000 && len(b.Open) <= 16
}

func expectedPlace(b impl.ChallengeBook, id int) int {
	for i, c := range b.Open {
		if c.Id == id {
			return i
		}
	}
	return -1
}

func inTime(open []impl.Challenge, now int) []impl.Challenge {
	list := []impl.Challenge{}
	for _, c := range open {
		if c.Until >= now {
			list = append(list, c)
		}
	}
	return list
}

func sameBook(a impl.ChallengeBook, b impl.ChallengeBook) bool {
	return a.Seed == b.Seed && a.Next == b.Next && slices.Equal(a.Open, b.Open)
}

func checkValidBook(t *testing.T, b impl.ChallengeBook, want bool) {
	t.Helper()
	if got := impl.IsValidBook(b); got != want {
		t.Errorf("IsValidBook(%+v) = %v", b, got)
	}
}

func checkIssued(t *testing.T, b impl.ChallengeBook, account int, now int) impl.ChallengeBook {
	t.Helper()
	issued := challengeOf(b.Next, account, now+5)
	want := impl.ChallengeBook{Seed: b.Seed, Next: b.Next + 1, Open: append(slices.Clone(b.Open), issued)}
	if len(want.Open) == 17 {
		want.Open = want.Open[1:]
	}
	got, c, ok := impl.IssueChallenge(b, account, now)
	if !sameBook(got, want) || c != issued || !ok {
		t.Errorf("IssueChallenge(%+v, %d, %d) = %+v, %+v, %v, want %+v, %+v, true", b, account, now, got, c, ok, want, issued)
	}
	return got
}

func checkNotIssued(t *testing.T, b impl.ChallengeBook, account int, now int) {
	t.Helper()
	if got, c, ok := impl.IssueChallenge(b, account, now); !sameBook(got, b) || c != (impl.Challenge{}) || ok {
		t.Errorf("IssueChallenge(%+v, %d, %d) = %+v, %+v, %v", b, account, now, got, c, ok)
	}
}

func checkChallengeValue(t *testing.T, b impl.ChallengeBook, id int, want int) {
	t.Helper()
	if got := impl.ChallengeValue(b, id); got != want {
		t.Errorf("ChallengeValue(%+v, %d) = %d, want %d", b, id, got, want)
	}
}

// checkTaken expects the challenge to be removed, whether the answer is accepted or not.
func checkTaken(t *testing.T, b impl.ChallengeBook, id int, account int, now int, accepted bool) impl.ChallengeBook {
	t.Helper()
	place := expectedPlace(b, id)
	want := impl.ChallengeBook{Seed: b.Seed, Next: b.Next, Open: slices.Concat(b.Open[:place], b.Open[place+1:])}
	got, ok := impl.TakeChallenge(b, id, account, now)
	if !sameBook(got, want) || ok != accepted {
		t.Errorf("TakeChallenge(%+v, %d, %d, %d) = %+v, %v, want %+v, %v", b, id, account, now, got, ok, want, accepted)
	}
	return got
}

func checkNotTaken(t *testing.T, b impl.ChallengeBook, id int, account int, now int) {
	t.Helper()
	if got, ok := impl.TakeChallenge(b, id, account, now); !sameBook(got, b) || ok {
		t.Errorf("TakeChallenge(%+v, %d, %d, %d) = %+v, %v", b, id, account, now, got, ok)
	}
}

func checkExpired(t *testing.T, b impl.ChallengeBook, now int, want ...impl.Challenge) {
	t.Helper()
	if got := impl.ExpireChallenges(b, now); !sameBook(got, impl.ChallengeBook{Seed: b.Seed, Next: b.Next, Open: want}) {
		t.Errorf("ExpireChallenges(%+v, %d) = %+v, want %+v to be open", b, now, got, want)
	}
}

func checkChallengeAt(t *testing.T, b impl.ChallengeBook, id int, want int) {
	t.Helper()
	if got := impl.FindChallenge(b, id); got != want {
		t.Errorf("FindChallenge(%+v, %d) = %d, want %d", b, id, got, want)
	}
}

func checkEqualBooks(t *testing.T, a impl.ChallengeBook, b impl.ChallengeBook, want bool) {
	t.Helper()
	if got := impl.EqualBooks(a, b); got != want {
		t.Errorf("EqualBooks(%+v, %+v) = %v", a, b, got)
	}
	if got := impl.EqualBooks(b, a); got != want {
		t.Errorf("EqualBooks(%+v, %+v) = %v", b, a, got)
	}
}

func TestChallengeLimits(t *testing.T) {
	if impl.MaxOpen != 16 || impl.ChallengeLife != 5 || impl.MaxTime != 1000000 {
		t.Errorf("MaxOpen is %d, ChallengeLife is %d and MaxTime is %d", impl.MaxOpen, impl.ChallengeLife, impl.MaxTime)
	}
}

func TestIsValidBook(t *testing.T) {
	for _, b := range validBooks() {
		checkValidBook(t, b, true)
	}
	for _, b := range invalidBooks() {
		checkValidBook(t, b, false)
	}
}

func TestIsValidBookAtTheEndsOfTheRanges(t *testing.T) {
	for n, want := range map[int]bool{-2: false, -1: false, 0: true, 1: true, 999999: true, 1000000: true, 1000001: false, 1000002: false} {
		checkValidBook(t, bookOf(n), want)
	}
	for n, want := range map[int]bool{-2: false, -1: false, 0: true, 1: true, 1000000: true, 1000001: true, 1000004: true, 1000005: true, 1000006: false, 1000007: false} {
		checkValidBook(t, bookOf(9, challengeOf(4, n, 15)), want)
		checkValidBook(t, bookOf(9, challengeOf(4, 3, n)), want)
	}
	for _, next := range []int{0, 1, 2, 9, maxCounter} {
		for _, id := range []int{-2, -1, 0, 1, 2, next - 2, next - 1, next, next + 1, maxCounter, maxCounter + 1} {
			checkValidBook(t, bookOf(next, challengeOf(id, 3, 15)), id >= 0 && id < next)
		}
	}
}

func TestIsValidBookOfEverySize(t *testing.T) {
	for size := range 40 {
		checkValidBook(t, bookOfSize(size), size <= 16)
		checkValidBook(t, bookFrom(0, size), size <= 16)
	}
}

func TestIsValidBookOfEveryOrder(t *testing.T) {
	for size := range 5 {
		for _, ids := range arrangements([]int{0, 1, 4, 8}, size) {
			open := []impl.Challenge{}
			for _, id := range ids {
				open = append(open, challengeOf(id, 3, 15))
			}
			checkValidBook(t, bookOf(9, open...), slices.IsSorted(ids))
		}
	}
}

func TestIsValidBookFollowsItsDefinition(t *testing.T) {
	numbers := append(anyInts(), 2, maxCounter-1, maxCounter, maxCounter+1, lastTime, lastTime+1)
	for _, a := range numbers {
		for _, b := range numbers {
			for _, c := range numbers {
				one := challengeOf(a, b, c)
				for _, book := range []impl.ChallengeBook{bookOf(c, one), bookOf(maxCounter, one), bookOf(maxCounter, one, challengeOf(b, 3, 15)), bookOf(a, challengeOf(b, 3, 15), challengeOf(c, 3, 15))} {
					checkValidBook(t, book, expectedValidBook(book))
				}
			}
		}
	}
}

func TestIssueChallenge(t *testing.T) {
	first, c, ok := impl.IssueChallenge(impl.ChallengeBook{Seed: 7}, 3, 10)
	if !sameBook(first, impl.ChallengeBook{Seed: 7, Next: 1, Open: []impl.Challenge{{Id: 0, Account: 3, Until: 15}}}) || c != (impl.Challenge{Id: 0, Account: 3, Until: 15}) || !ok {
		t.Errorf("the first challenge is %+v, %v in %+v", c, ok, first)
	}
	second, c, ok := impl.IssueChallenge(first, 4, 8)
	if !sameBook(second, impl.ChallengeBook{Seed: 7, Next: 2, Open: []impl.Challenge{{Id: 0, Account: 3, Until: 15}, {Id: 1, Account: 4, Until: 13}}}) || c != (impl.Challenge{Id: 1, Account: 4, Until: 13}) || !ok {
		t.Errorf("the second challenge is %+v, %v in %+v", c, ok, second)
	}
	gap := bookOf(9, challengeOf(2, 0, 0), challengeOf(5, lastTime, lastTime))
	third, c, ok := impl.IssueChallenge(gap, 4, 8)
	if !sameBook(third, bookOf(10, challengeOf(2, 0, 0), challengeOf(5, lastTime, lastTime), challengeOf(9, 4, 13))) || c != challengeOf(9, 4, 13) || !ok {
		t.Errorf("the challenge after %+v is %+v, %v in %+v", gap, c, ok, third)
	}
}

func TestIssueChallengeFollowsItsDefinition(t *testing.T) {
	for _, b := range validBooks() {
		for _, account := range []int{0, 1, 3, maxTime - 1, maxTime} {
			for _, now := range []int{0, 1, 10, maxTime - 1, maxTime} {
				if b.Next == maxCounter {
					checkNotIssued(t, b, account, now)
				} else {
					checkValidBook(t, checkIssued(t, b, account, now), true)
				}
			}
		}
	}
}

// The first one makes room, and not the one that is over first.
func TestIssueChallengeInAFullBook(t *testing.T) {
	open := []impl.Challenge{}
	for i := range maxOpen {
		open = append(open, challengeOf(2*i, i, 900-i))
	}
	almost, full := bookOf(40, open[:maxOpen-1]...), bookOf(40, open...)
	got, c, ok := impl.IssueChallenge(almost, 3, 10)
	if !sameBook(got, bookOf(41, append(slices.Clone(open[:15]), challengeOf(40, 3, 15))...)) || c != challengeOf(40, 3, 15) || !ok {
		t.Errorf("in a book of 15, the challenge is %+v, %v in %+v", c, ok, got)
	}
	got, c, ok = impl.IssueChallenge(full, 3, 10)
	if !sameBook(got, bookOf(41, append(slices.Clone(open[1:]), challengeOf(40, 3, 15))...)) || c != challengeOf(40, 3, 15) || !ok {
		t.Errorf("in a book of 16, the challenge is %+v, %v in %+v", c, ok, got)
	}
}

func TestChallengesInARow(t *testing.T) {
	b := impl.ChallengeBook{Seed: 7}
	for i := range 100 {
		b = checkIssued(t, b, i%7, i)
		checkValidBook(t, b, true)
		if b.Next != i+1 || len(b.Open) != min(i+1, 16) {
			t.Errorf("after %d challenges the book is %+v", i+1, b)
		}
		for place, c := range b.Open {
			if id := i + 1 - len(b.Open) + place; c != challengeOf(id, id%7, id+5) {
				t.Errorf("after %d challenges, %+v is at %d", i+1, c, place)
			}
		}
	}
}

func TestChallengesUpToTheLastId(t *testing.T) {
	for _, size := range []int{0, 1, maxOpen - 1, maxOpen} {
		b := bookFrom(maxCounter-3-size, size)
		for range 3 {
			b = checkIssued(t, b, 3, 10)
		}
		if b.Next != 1000000 || b.Open[len(b.Open)-1].Id != 999999 {
			t.Errorf("after the last challenge the book is %+v", b)
		}
		checkValidBook(t, b, true)
		checkNotIssued(t, b, 3, 10)
		b = checkTaken(t, b, maxCounter-1, 3, 15, true)
		checkNotIssued(t, b, 3, 10)
	}
}

// Whose time is over stays in the book until it is expired or taken.
func TestIssueChallengeKeepsTheOthers(t *testing.T) {
	b := checkIssued(t, bookOf(9, challengeOf(2, 3, 0), challengeOf(5, 3, 15)), 3, maxTime)
	if !slices.Equal(b.Open, []impl.Challenge{challengeOf(2, 3, 0), challengeOf(5, 3, 15), challengeOf(9, 3, 1000005)}) {
		t.Errorf("the book is %+v", b)
	}
}

func TestIssueChallengeOutOfRange(t *testing.T) {
	for _, b := range []impl.ChallengeBook{{}, bookOf(0), bookOfSize(3), bookOfSize(maxOpen), bookFrom(0, maxOpen), bookOf(maxCounter)} {
		for _, n := range append(beyondRange(maxTime), lastTime) {
			for _, other := range []int{0, 3, maxTime, n} {
				checkNotIssued(t, b, n, other)
				checkNotIssued(t, b, other, n)
			}
		}
	}
}

func TestIssueChallengeAtTheEndsOfTheRanges(t *testing.T) {
	for _, b := range []impl.ChallengeBook{bookOf(0), bookOfSize(3), bookOfSize(maxOpen)} {
		for _, n := range []int{-2, -1, 0, 1, 999999, 1000000, 1000001, 1000002} {
			if n >= 0 && n <= 1000000 {
				checkIssued(t, b, n, 10)
				checkIssued(t, b, 3, n)
			} else {
				checkNotIssued(t, b, n, 10)
				checkNotIssued(t, b, 3, n)
			}
		}
	}
}

func TestIssueChallengeOfAnInvalidBook(t *testing.T) {
	for _, b := range invalidBooks() {
		for _, n := range []int{0, 3, maxTime, -1, maxTime + 1} {
			checkNotIssued(t, b, n, 10)
			checkNotIssued(t, b, 3, n)
		}
	}
}

func TestChallengeValue(t *testing.T) {
	checkChallengeValue(t, bookOf(1), 0, 981410456)
	checkChallengeValue(t, bookOf(1), 1, 982410459)
	checkChallengeValue(t, bookOf(1), 999999, 256030951)
	checkChallengeValue(t, bookOf(1), 1000000, 257030954)
	checkChallengeValue(t, bookOf(1), -1, 980410453)
	checkChallengeValue(t, bookOf(1), math.MinInt, 979410450)
	checkChallengeValue(t, bookOf(1), math.MaxInt, 982410459)
	checkChallengeValue(t, impl.ChallengeBook{}, 0, 76929063)
	checkChallengeValue(t, impl.ChallengeBook{Seed: 8}, 0, 2030972218)
	checkChallengeValue(t, impl.ChallengeBook{Seed: -1}, 0, 1174850948)
	checkChallengeValue(t, impl.ChallengeBook{Seed: lastKey}, 5, 1179850963)
	checkChallengeValue(t, impl.ChallengeBook{Seed: impl.Modulus}, 0, 76929063)
	checkChallengeValue(t, impl.ChallengeBook{Seed: math.MinInt}, 3, 128289195)
	checkChallengeValue(t, impl.ChallengeBook{Seed: math.MaxInt}, 3, 1129490834)
}

// The value is that of any Id, whether there is such a challenge or not, and also of a book that is not valid.
func TestChallengeValueFollowsItsDefinition(t *testing.T) {
	for _, b := range append(validBooks(), invalidBooks()...) {
		for _, id := range []int{0, 1, 4, b.Next, maxCounter, -1, math.MinInt} {
			checkChallengeValue(t, b, id, expectedKeyedHash(b.Seed, 197, id))
		}
	}
	for _, seed := range append(anyInts(), hashedInts()...) {
		for _, id := range append(anyInts(), hashedInts()...) {
			b := impl.ChallengeBook{Seed: seed, Next: 9, Open: []impl.Challenge{challengeOf(4, 3, 15)}}
			checkChallengeValue(t, b, id, expectedKeyedHash(seed, 197, id))
			checkChallengeValue(t, b, id, impl.KeyedHash(seed, []int{197, id}))
		}
	}
}

func TestChallengeValueMayBeZero(t *testing.T) {
	for _, id := range []int{0, 1, 4711, maxCounter - 1} {
		seed := keyOfHashZero([]int{197, id})
		checkKeyedHash(t, 0, seed, 197, id)
		checkChallengeValue(t, impl.ChallengeBook{Seed: seed}, id, 0)
	}
}

func TestChallengeValuesOfABookDiffer(t *testing.T) {
	for _, seed := range []int{0, 7, lastKey} {
		b := impl.ChallengeBook{Seed: seed}
		ids := map[int]int{}
		for id := 0; id < maxCounter && !t.Failed(); id++ {
			value := impl.ChallengeValue(b, id)
			if earlier, ok := ids[value]; ok {
				t.Errorf("with the seed %d, %d and %d have the value %d", seed, earlier, id, value)
			}
			ids[value] = id
		}
	}
}

func TestTakeChallenge(t *testing.T) {
	first, middle, last := challengeOf(2, 3, 15), challengeOf(5, 4, 20), challengeOf(8, 3, 10)
	for id, rest := range map[int][]impl.Challenge{2: {middle, last}, 5: {first, last}, 8: {first, middle}} {
		account := map[int]int{2: 3, 5: 4, 8: 3}[id]
		got, ok := impl.TakeChallenge(bookOf(9, first, middle, last), id, account, 10)
		if !sameBook(got, bookOf(9, rest...)) || !ok {
			t.Errorf("taking %d gives %+v, %v", id, got, ok)
		}
	}
	got, ok := impl.TakeChallenge(bookOf(3, first), 2, 3, 15)
	if !sameBook(got, bookOf(3)) || !ok {
		t.Errorf("taking the only challenge gives %+v, %v", got, ok)
	}
}

func TestTakeChallengeFollowsItsDefinition(t *testing.T) {
	for _, b := range validBooks() {
		for _, c := range b.Open {
			for _, account := range []int{c.Account, c.Account + 1, c.Account - 1, 0, 3, -1, lastTime} {
				for _, now := range []int{c.Until, c.Until - 1, c.Until + 1, 0, -1, maxTime, math.MinInt, math.MaxInt} {
					checkTaken(t, b, c.Id, account, now, account == c.Account && now <= c.Until)
				}
			}
		}
	}
}

func TestTakeChallengeAtEveryPlace(t *testing.T) {
	for size := 1; size <= maxOpen; size++ {
		b := bookOfSize(size)
		for _, c := range b.Open {
			checkTaken(t, b, c.Id, c.Account, c.Until, true)
			checkTaken(t, b, c.Id, c.Account+1, c.Until, false)
			checkTaken(t, b, c.Id, c.Account, c.Until+1, false)
		}
	}
}

func TestTakeChallengeInTime(t *testing.T) {
	for _, until := range []int{0, 1, 15, maxTime, lastTime - 1, lastTime} {
		b := bookOf(9, challengeOf(2, 4, 15), challengeOf(5, 3, until), challengeOf(8, 4, 15))
		for _, now := range []int{until, until - 1, until - 2, until - challengeLife, -1, -maxTime, math.MinInt, math.MinInt + 1} {
			checkTaken(t, b, 5, 3, now, true)
		}
		for _, now := range []int{until + 1, until + 2, until + challengeLife, until + 1<<32, lastTime + 1, 1 << 40, math.MaxInt - 1, math.MaxInt} {
			checkTaken(t, b, 5, 3, now, false)
		}
	}
}

// A refused answer uses the challenge up, so that the right one comes too late.
func TestRefusedChallengeIsRemoved(t *testing.T) {
	b := bookOf(9, challengeOf(2, 4, 15), challengeOf(5, 3, 15), challengeOf(8, 3, 15))
	for _, account := range append(anyInts(), 2, 5) {
		if account == 4 {
			continue
		}
		rest := checkTaken(t, b, 2, account, 10, false)
		checkNotTaken(t, rest, 2, 4, 10)
		checkTaken(t, rest, 5, 3, 15, true)
	}
	rest := checkTaken(t, b, 5, 3, 16, false)
	checkNotTaken(t, rest, 5, 3, 15)
	rest = checkTaken(t, b, 5, 4, 16, false)
	checkNotTaken(t, rest, 5, 3, 15)
	checkTaken(t, rest, 8, 3, 15, true)
}

// An account that could not be issued a challenge may still be in a valid book.
func TestTakeChallengeOfAnAccountBeyondMaxTime(t *testing.T) {
	for account := maxTime - 1; account <= lastTime; account++ {
		b := bookOf(9, challengeOf(4, account, 15))
		checkTaken(t, b, 4, account, 15, true)
		checkTaken(t, b, 4, account+1, 15, false)
	}
}

func TestTakeChallengeThatIsNotThere(t *testing.T) {
	for _, b := range validBooks() {
		for _, id := range []int{-1, 0, 1, 2, 3, 6, b.Next - 1, b.Next, b.Next + 1, maxCounter, maxCounter + 1, 1 << 32, math.MinInt, math.MaxInt} {
			if expectedPlace(b, id) == -1 {
				checkNotTaken(t, b, id, 3, 15)
				checkNotTaken(t, b, id, 0, 0)
				checkNotTaken(t, b, id, 0, math.MinInt)
			}
		}
	}
}

func TestTakeChallengeOfAnInvalidBook(t *testing.T) {
	for _, b := range invalidBooks() {
		for _, c := range b.Open {
			checkNotTaken(t, b, c.Id, c.Account, c.Until)
			checkNotTaken(t, b, c.Id, c.Account+1, c.Until)
			checkNotTaken(t, b, c.Id, c.Account, math.MaxInt)
		}
		checkNotTaken(t, b, b.Next, 3, 10)
		checkNotTaken(t, b, 0, 0, 0)
	}
}

func TestExpireChallenges(t *testing.T) {
	first, middle, last := challengeOf(2, 3, 15), challengeOf(5, 4, 20), challengeOf(8, 3, 10)
	b := bookOf(9, first, middle, last)
	for now, open := range map[int][]impl.Challenge{9: {first, middle, last}, 10: {first, middle, last}, 11: {first, middle}, 15: {first, middle}, 16: {middle}, 20: {middle}, 21: {}, 22: {}} {
		checkExpired(t, b, now, open...)
	}
	checkExpired(t, b, math.MinInt, first, middle, last)
	checkExpired(t, b, math.MaxInt)
	checkExpired(t, bookOf(9), 10)
	checkExpired(t, impl.ChallengeBook{}, math.MaxInt)
}

func TestExpireChallengesFollowsItsDefinition(t *testing.T) {
	for _, b := range validBooks() {
		for _, now := range []int{-1, 0, 1, 15, 16, 100, 101, 107, 108, 115, 116, maxTime, maxTime + 1, lastTime, lastTime + 1, 1 << 32, math.MinInt, math.MinInt + 1, math.MaxInt} {
			checkExpired(t, b, now, inTime(b.Open, now)...)
			checkValidBook(t, impl.ExpireChallenges(b, now), true)
		}
	}
}

// Each set of the challenges is what remains of some book.
func TestExpireChallengesOfEverySet(t *testing.T) {
	for set := range 1 << 8 {
		open, kept := []impl.Challenge{}, []impl.Challenge{}
		for i := range 8 {
			c := challengeOf(i, 3, 9+set>>i&1)
			open = append(open, c)
			if c.Until == 10 {
				kept = append(kept, c)
			}
		}
		checkExpired(t, bookOf(8, open...), 9, open...)
		checkExpired(t, bookOf(8, open...), 10, kept...)
		checkExpired(t, bookOf(8, open...), 11)
	}
}

func TestExpireChallengesAtTheEndsOfTime(t *testing.T) {
	early, late := challengeOf(0, 3, 0), challengeOf(1, 3, lastTime)
	checkExpired(t, bookOf(2, early, late), -1, early, late)
	checkExpired(t, bookOf(2, early, late), 0, early, late)
	checkExpired(t, bookOf(2, early, late), 1, late)
	checkExpired(t, bookOf(2, early, late), 1000005, late)
	checkExpired(t, bookOf(2, early, late), 1000006)
}

func TestExpireChallengesOfAnInvalidBook(t *testing.T) {
	for _, b := range invalidBooks() {
		for _, now := range []int{0, 16, 108, lastTime + 1, math.MinInt, math.MaxInt} {
			checkExpired(t, b, now, b.Open...)
		}
	}
}

func TestFindChallenge(t *testing.T) {
	for _, b := range validBooks() {
		for i, c := range b.Open {
			checkChallengeAt(t, b, c.Id, i)
		}
		for _, id := range []int{-1, 0, 1, 2, 3, 4, b.Next - 1, b.Next, maxCounter, 1 << 32, math.MinInt, math.MaxInt} {
			checkChallengeAt(t, b, id, expectedPlace(b, id))
		}
	}
	b := bookOf(9, challengeOf(2, 5, 8), challengeOf(6, 0, 1))
	for id := -3; id < 12; id++ {
		checkChallengeAt(t, b, id, map[int]int{2: 1, 6: 2}[id]-1)
	}
}

func TestFindChallengeOfAnInvalidBook(t *testing.T) {
	for _, b := range invalidBooks() {
		for _, c := range b.Open {
			checkChallengeAt(t, b, c.Id, expectedPlace(b, c.Id))
		}
		checkChallengeAt(t, b, b.Next+7, expectedPlace(b, b.Next+7))
	}
	several := bookOf(0, challengeOf(9, 1, 1), challengeOf(4, 1, 1), challengeOf(-1, 1, 1), challengeOf(4, 3, 15), challengeOf(9, 3, 15), challengeOf(4, 3, 15))
	checkChallengeAt(t, several, 9, 0)
	checkChallengeAt(t, several, 4, 1)
	checkChallengeAt(t, several, -1, 2)
	checkChallengeAt(t, several, 0, -1)
	checkChallengeAt(t, bookOf(9, slices.Repeat([]impl.Challenge{{}}, 300)...), 0, 0)
	checkChallengeAt(t, bookFrom(0, 300), 299, 299)
}

func TestEqualBooks(t *testing.T) {
	books := append(validBooks(), invalidBooks()...)
	for i, a := range books {
		copied := a
		copied.Open = slices.Clone(a.Open)
		checkEqualBooks(t, a, copied, true)
		for _, b := range books[i:min(i+60, len(books))] {
			checkEqualBooks(t, a, b, sameBook(a, b))
		}
	}
}

func TestEqualBooksOfNilAndEmpty(t *testing.T) {
	checkEqualBooks(t, impl.ChallengeBook{}, impl.ChallengeBook{}, true)
	checkEqualBooks(t, impl.ChallengeBook{}, impl.ChallengeBook{Open: []impl.Challenge{}}, true)
	checkEqualBooks(t, bookOf(5), impl.ChallengeBook{Seed: 7, Next: 5, Open: make([]impl.Challenge, 0, 4)}, true)
	checkEqualBooks(t, impl.ChallengeBook{}, impl.ChallengeBook{Open: []impl.Challenge{{}}}, false)
}

func TestEqualBooksThatDiffer(t *testing.T) {
	for _, b := range []impl.ChallengeBook{bookOf(0), bookOfSize(1), bookOfSize(3), bookOfSize(maxOpen), bookOf(-1, challengeOf(4, 1, 1), challengeOf(4, 1, 1))} {
		for _, n := range []int{1, -1, 1 << 32, math.MinInt} {
			checkEqualBooks(t, b, impl.ChallengeBook{Seed: b.Seed + n, Next: b.Next, Open: b.Open}, false)
			checkEqualBooks(t, b, impl.ChallengeBook{Seed: b.Seed, Next: b.Next + n, Open: b.Open}, false)
			for i, c := range b.Open {
				checkEqualBooks(t, b, changedAt(b, i, challengeOf(c.Id+n, c.Account, c.Until)), false)
				checkEqualBooks(t, b, changedAt(b, i, challengeOf(c.Id, c.Account+n, c.Until)), false)
				checkEqualBooks(t, b, changedAt(b, i, challengeOf(c.Id, c.Account, c.Until+n)), false)
			}
		}
		for i := range b.Open {
			checkEqualBooks(t, b, bookOf(b.Next, b.Open[:i]...), false)
			checkEqualBooks(t, b, bookOf(b.Next, slices.Concat(b.Open[:i], b.Open[i+1:])...), false)
		}
		checkEqualBooks(t, b, bookOf(b.Next, append(slices.Clone(b.Open), impl.Challenge{})...), false)
	}
	one, other := challengeOf(1, 3, 15), challengeOf(4, 3, 15)
	checkEqualBooks(t, bookOf(9, one, other), bookOf(9, other, one), false)
	checkEqualBooks(t, impl.ChallengeBook{Seed: 3, Next: 7}, impl.ChallengeBook{Seed: 7, Next: 3}, false)
}

// Promise 12: once the book has gone on, no answer is accepted a second time, whatever the first one was.
func TestChallengeIsTakenAtMostOnce(t *testing.T) {
	for size := 1; size <= maxOpen; size++ {
		for _, c := range bookOfSize(size).Open {
			b := checkTaken(t, bookOfSize(size), c.Id, c.Account, c.Until, true)
			for range 3 {
				for _, now := range []int{c.Until, 0, math.MinInt} {
					checkNotTaken(t, b, c.Id, c.Account, now)
				}
				b = checkIssued(t, b, c.Account, c.Until)
				b = impl.ExpireChallenges(b, 0)
			}
			checkNotTaken(t, b, c.Id, c.Account, c.Until)
		}
	}
}

func TestChallengesAreTakenInEveryOrder(t *testing.T) {
	b := bookOfSize(5)
	for _, order := range arrangements(b.Open, 5) {
		rest := b
		for i, c := range order {
			rest = checkTaken(t, rest, c.Id, c.Account, c.Until, true)
			for _, taken := range order[:i+1] {
				checkNotTaken(t, rest, taken.Id, taken.Account, taken.Until)
			}
		}
		if len(rest.Open) != 0 || rest.Next != b.Next {
			t.Errorf("after %+v the book is %+v", order, rest)
		}
	}
}

// Of a long life of a book, each accepted answer is one to a challenge that was issued to this account, in time and not accepted before.
func TestBookOverALongTime(t *testing.T) {
	for start := 1; start <= 20; start++ {
		draw := start
		below := func(n int) int {
			draw = (draw*48271 + 11) % impl.Modulus
			return draw / 7 % n
		}
		b := impl.ChallengeBook{Seed: start}
		issued := []impl.Challenge{}
		used := map[int]bool{}
		accepted := 0
		for step := range 600 {
			now := step / 4
			if below(2) == 0 {
				b = checkIssued(t, b, below(3), now)
				issued = append(issued, b.Open[len(b.Open)-1])
			}
			if below(9) == 0 {
				checkExpired(t, b, now, inTime(b.Open, now)...)
				b = impl.ExpireChallenges(b, now)
			}
			id, account := b.Next-below(8), below(3)
			next, ok := impl.TakeChallenge(b, id, account, now)
			if ok {
				accepted++
				if used[id] || issued[id].Account != account || issued[id].Until < now {
					t.Errorf("the answer of %d to %+v is accepted at %d", account, issued[id], now)
				}
			}
			used[id] = used[id] || id < b.Next
			b = next
			checkValidBook(t, b, true)
		}
		if accepted < 20 || b.Next != len(issued) {
			t.Errorf("%d answers are accepted, and the book is %+v", accepted, b)
		}
	}
}

// The book is a value: the one before the call still has the challenge.
func TestTakeChallengeFromTheSameBook(t *testing.T) {
	b := bookOfSize(3)
	for range 3 {
		checkTaken(t, b, 4, 21, 107, true)
		checkTaken(t, b, 4, 20, 107, false)
	}
}

func TestBookFunctionsLeaveTheirBooks(t *testing.T) {
	for _, b := range append(validBooks(), invalidBooks()...) {
		open, array := withSpare(challengeOf(66, 66, 66), b.Open...)
		before := slices.Clone(array)
		book := impl.ChallengeBook{Seed: b.Seed, Next: b.Next, Open: open}
		impl.IsValidBook(book)
		impl.IssueChallenge(book, 3, 10)
		impl.IssueChallenge(book, -1, 10)
		impl.ChallengeValue(book, 4)
		for _, id := range []int{0, 1, 4, 7, book.Next - 1} {
			impl.TakeChallenge(book, id, 20, 10)
		}
		for _, now := range []int{0, 16, 108, math.MaxInt} {
			impl.ExpireChallenges(book, now)
		}
		impl.FindChallenge(book, 4)
		impl.EqualBooks(book, book)
		if !slices.Equal(array, before) || !sameBook(book, b) {
			t.Errorf("the book %+v became %+v in %v", b, book, array)
		}
	}
}

// The results have memory of their own, also where they are copies.
func TestBooksAreApart(t *testing.T) {
	functions := map[string]func(impl.ChallengeBook) impl.ChallengeBook{}
	for _, n := range []int{-1, 0, maxTime} {
		functions["IssueChallenge at "+impl.FormatInt(n)] = func(b impl.ChallengeBook) impl.ChallengeBook {
			got, _, _ := impl.IssueChallenge(b, 3, n)
			return got
		}
	}
	for _, id := range []int{-1, 0, 1, 4, 46} {
		functions["TakeChallenge of "+impl.FormatInt(id)] = func(b impl.ChallengeBook) impl.ChallengeBook {
			got, _ := impl.TakeChallenge(b, id, 20, 10)
			return got
		}
	}
	for _, now := range []int{0, 16, 108, lastTime + 1} {
		functions["ExpireChallenges at "+impl.FormatInt(now)] = func(b impl.ChallengeBook) impl.ChallengeBook {
			return impl.ExpireChallenges(b, now)
		}
	}
	for name, function := range functions {
		for _, b := range append(validBooks(), invalidBooks()...) {
			open, array := withSpare(challengeOf(66, 66, 66), b.Open...)
			before := slices.Clone(array)
			got := function(impl.ChallengeBook{Seed: b.Seed, Next: b.Next, Open: open})
			checkApart(t, name, got.Open, challengeOf(99, 99, 99), array, before, challengeOf(55, 55, 55))
		}
	}
}

// A second call with the same book would overwrite the first result, if both had written to the spare capacity.
func TestResultsOfTwoBooksAreApart(t *testing.T) {
	for _, size := range []int{0, 1, 3, maxOpen - 1, maxOpen} {
		open, _ := withSpare(challengeOf(66, 66, 66), bookOfSize(size).Open...)
		b := bookOf(3*size+2, open...)
		first, _, _ := impl.IssueChallenge(b, 3, 10)
		second, _, _ := impl.IssueChallenge(b, 4, 20)
		if first.Open[len(first.Open)-1] != challengeOf(b.Next, 3, 15) || second.Open[len(second.Open)-1] != challengeOf(b.Next, 4, 25) {
			t.Errorf("the results are %+v and %+v", first, second)
		}
		again, _, _ := impl.IssueChallenge(first, 5, 30)
		checkTaken(t, first, b.Next, 3, 15, true)
		if again.Open[len(again.Open)-1] != challengeOf(b.Next+1, 5, 35) || first.Open[len(first.Open)-1] != challengeOf(b.Next, 3, 15) {
			t.Errorf("the later results are %+v and %+v", first, again)
		}
	}
}

func TestBookFunctionsIgnoreSpareCapacity(t *testing.T) {
	for _, filler := range []impl.Challenge{{}, challengeOf(4, 3, 15), challengeOf(9, 3, 15), challengeOf(-1, -1, -1)} {
		open, _ := withSpare(filler, challengeOf(2, 4, 20))
		b := bookOf(9, open...)
		checkValidBook(t, b, true)
		checkIssued(t, b, 3, 10)
		checkTaken(t, b, 2, 4, 20, true)
		checkNotTaken(t, b, 4, 3, 15)
		checkNotTaken(t, b, 0, 0, 0)
		checkExpired(t, b, 15, challengeOf(2, 4, 20))
		checkChallengeAt(t, b, filler.Id, -1)
		checkEqualBooks(t, b, bookOf(9, challengeOf(2, 4, 20)), true)
		checkEqualBooks(t, b, bookOf(9, challengeOf(2, 4, 20), filler), false)
	}
}

// Between the calls with the same book there are others, of which nothing may be left, least of all a used challenge.
func TestBookFunctionsKeepNoState(t *testing.T) {
	for range 3 {
		b := bookOfSize(3)
		checkValidBook(t, b, true)
		checkIssued(t, b, 3, 10)
		checkChallengeValue(t, b, 0, 981410456)
		checkTaken(t, b, 4, 21, 107, true)
		checkExpired(t, b, 107, challengeOf(4, 21, 107), challengeOf(7, 22, 114))
		checkChallengeAt(t, b, 4, 1)
		checkEqualBooks(t, b, bookOfSize(3), true)
		for _, other := range append(validBooks(), invalidBooks()...) {
			impl.IsValidBook(other)
			impl.IssueChallenge(other, 4, 20)
			impl.ChallengeValue(other, 4)
			impl.TakeChallenge(other, 4, 21, 107)
			impl.ExpireChallenges(other, 108)
			impl.FindChallenge(other, 4)
			impl.EqualBooks(other, b)
		}
	}
}

func TestBookFunctionsReturnForAllArguments(t *testing.T) {
	numbers := append(anyInts(), 2, maxCounter-1, maxCounter, maxCounter+1, lastTime, lastTime+1)
	for _, a := range numbers {
		for _, b := range numbers {
			for _, open := range [][]impl.Challenge{nil, {challengeOf(a, b, 15)}, {challengeOf(a, 3, b)}, {challengeOf(a, 3, 15), challengeOf(b, 3, 15)}, {challengeOf(0, a, b), challengeOf(2, b, a)}} {
				checkAnyBook(t, impl.ChallengeBook{Seed: b, Next: a, Open: open}, a, b)
				checkAnyBook(t, bookOf(maxCounter-1, open...), a, b)
				checkAnyBook(t, bookOf(maxCounter, open...), b, a)
			}
		}
	}
	for _, b := range []impl.ChallengeBook{bookFrom(0, 100000), bookOf(9, slices.Repeat([]impl.Challenge{challengeOf(4, 3, 15)}, 5000)...), bookOf(9, make([]impl.Challenge, 17)...)} {
		checkAnyBook(t, b, 3, 10)
		checkAnyBook(t, b, math.MaxInt, math.MinInt)
	}
}

// checkAnyBook uses the two numbers for an Id, an account and a time.
func checkAnyBook(t *testing.T, book impl.ChallengeBook, a int, b int) {
	t.Helper()
	valid := expectedValidBook(book)
	checkValidBook(t, book, valid)
	if valid && book.Next < 1000000 && min(a, b) >= 0 && max(a, b) <= 1000000 {
		checkIssued(t, book, a, b)
	} else {
		checkNotIssued(t, book, a, b)
	}
	place := expectedPlace(book, a)
	checkChallengeAt(t, book, a, place)
	if valid && place >= 0 {
		checkTaken(t, book, a, b, 15, book.Open[place].Account == b && book.Open[place].Until >= 15)
		checkTaken(t, book, a, 3, b, book.Open[place].Account == 3 && book.Open[place].Until >= b)
	} else {
		checkNotTaken(t, book, a, b, 15)
		checkNotTaken(t, book, a, 3, b)
	}
	if valid {
		checkExpired(t, book, b, inTime(book.Open, b)...)
	} else {
		checkExpired(t, book, b, book.Open...)
	}
	checkChallengeValue(t, book, a, impl.KeyedHash(book.Seed, []int{197, a}))
	checkEqualBooks(t, book, impl.ChallengeBook{Seed: book.Seed, Next: book.Next, Open: slices.Clone(book.Open)}, true)
	checkEqualBooks(t, book, bookOf(a, challengeOf(b, a, b)), sameBook(book, bookOf(a, challengeOf(b, a, b))))
}
