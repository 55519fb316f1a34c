package tests

import (
	"fmt"
	"maps"
	"math"
	"math/rand"
	"runtime"
	"slices"
	"strconv"
	"strings"
	"sync"
	"testing"

	"loop.example/g00247/impl"
)

func seenAs(uid int, flags int, mod int) impl.Seen {
	return impl.Seen{Uid: uid, Flags: flags, Mod: mod}
}

func cacheAt(valid int, mod int, seens ...impl.Seen) impl.Cache {
	return impl.Cache{Box: "inbox", Valid: valid, Mod: mod, Seens: seens}
}

// cacheOf is a copy that is the same as the box.
func cacheOf(b impl.Box) impl.Cache {
	return impl.Cache{Box: b.Name, Valid: b.Valid, Mod: b.Mod, Seens: seensOf(b)}
}

// someCache is of the Valid 3 and the Mod 20, with the Uids 2, 3, 5, 8 and 9.
func someCache() impl.Cache { return cacheOf(someBox()) }

// seenRow are count of them, with step between their Uids, all of one Mod.
func seenRow(count int, from int, step int, mod int) []impl.Seen {
	var list []impl.Seen
	for _, uid := range uidRow(count, from, step) {
		list = append(list, seenAs(uid, uid&31, mod))
	}
	return list
}

func sameCache(a impl.Cache, b impl.Cache) bool {
	return a.Box == b.Box && a.Valid == b.Valid && a.Mod == b.Mod && slices.Equal(a.Seens, b.Seens)
}

func cacheTold(c impl.Cache) string {
	return fmt.Sprintf("{%.20q valid %d mod %d seens %.40v of %d}", c.Box, c.Valid, c.Mod, c.Seens[:min(len(c.Seens), 40)], len(c.Seens))
}

// plainCacheOk is the document's rule for a copy, number by number.
func plainCacheOk(c impl.Cache) bool {
	if !plainBoxName.MatchString(c.Box) || c.Valid < 0 || c.Valid > topUid || c.Mod < 0 || c.Mod > topMod || len(c.Seens) > mostMails {
		return false
	}
	last := 0
	for _, s := range c.Seens {
		if s.Uid <= last || s.Uid > topUid || s.Flags < 0 || s.Flags > 31 || s.Mod < 1 || s.Mod > c.Mod {
			return false
		}
		last = s.Uid
	}
	return true
}

func plainCacheWords(c impl.Cache) []string {
	switch {
	case !plainCacheOk(c):
		return nil
	case c.Valid == 0:
		return []string{"select", c.Box}
	}
	return strings.Fields(fmt.Sprintf("select %s %d %d", c.Box, c.Valid, c.Mod))
}

// plainCacheTake goes through the document's rule, with what is seen by Uid.
func plainCacheTake(c impl.Cache, lines []impl.Line) impl.Cache {
	wrong := func(x impl.Line) bool { return !plainLineOk(x) }
	if !plainCacheOk(c) || slices.ContainsFunc(lines, wrong) {
		return c
	}
	seens := map[int]impl.Seen{}
	for _, s := range c.Seens {
		seens[s.Uid] = s
	}
	became := c
	for _, x := range lines {
		switch x.Kind {
		case lnValid:
			if x.All || became.Valid != x.Num {
				clear(seens)
			}
			became.Valid, became.Mod = x.Num, x.Mod
		case lnVanished:
			maps.DeleteFunc(seens, func(uid int, s impl.Seen) bool { return inSet(x.Set, uid) })
		case lnFetch:
			seens[x.Uid] = seenAs(x.Uid, x.Flags, x.Mod)
		}
	}
	became.Seens = nil
	for _, uid := range slices.Sorted(maps.Keys(seens)) {
		became.Seens = append(became.Seens, seens[uid])
	}
	if !plainCacheOk(became) {
		return c
	}
	return became
}

func plainCacheSame(c impl.Cache, b impl.Box) bool { return sameCache(c, cacheOf(b)) }

func wantCacheOk(t *testing.T, what string, c impl.Cache, want bool) {
	t.Helper()
	if got := impl.CacheOk(c); got != want {
		t.Fatalf("with %s CacheOk(%s) is %v", what, cacheTold(c), got)
	}
}

func wantCacheWords(t *testing.T, c impl.Cache, want ...string) {
	t.Helper()
	if got := impl.CacheWords(c); !slices.Equal(got, want) {
		t.Fatalf("CacheWords(%s) = %s; want %s", cacheTold(c), wordsTold(got), wordsTold(want))
	}
}

func wantCacheTaken(t *testing.T, c impl.Cache, lines []impl.Line, want impl.Cache) impl.Cache {
	t.Helper()
	got := impl.CacheTake(c, lines)
	if !sameCache(got, want) {
		t.Fatalf("CacheTake(%s, %s) = %s; want %s", cacheTold(c), linesTold(lines), cacheTold(got), cacheTold(want))
	}
	if impl.CacheOk(got) != impl.CacheOk(c) {
		t.Fatalf("CacheTake(%s, %s) = %s; right is %v", cacheTold(c), linesTold(lines), cacheTold(got), impl.CacheOk(got))
	}
	return got
}

// wantCacheTakenAsPlain holds CacheTake against the document's rule, and has what it answers.
func wantCacheTakenAsPlain(t *testing.T, c impl.Cache, lines ...impl.Line) impl.Cache {
	t.Helper()
	return wantCacheTaken(t, c, lines, plainCacheTake(c, lines))
}

func wantCacheAsItIs(t *testing.T, c impl.Cache, lines ...impl.Line) {
	t.Helper()
	wantCacheTaken(t, c, lines, c)
}

func wantCacheSame(t *testing.T, c impl.Cache, b impl.Box, want bool) {
	t.Helper()
	if got := impl.CacheSame(c, b); got != want {
		t.Fatalf("CacheSame(%s, %s) is %v", cacheTold(c), boxTold(b), got)
	}
}

// linesOf has the lines that the texts tell, between which stands "; ".
func linesOf(t *testing.T, texts string) []impl.Line {
	t.Helper()
	var lines []impl.Line
	for _, text := range strings.Split(texts, "; ") {
		x, ok := impl.ReadLine(text)
		if !ok {
			t.Fatalf("%q is no line", text)
		}
		lines = append(lines, x)
	}
	return lines
}

// cacheChange is what makes another copy of a right one.
type cacheChange struct {
	what string
	do   func(c *impl.Cache)
}

func changedCache(change cacheChange) impl.Cache {
	c := someCache()
	change.do(&c)
	return c
}

// rightCacheChanges leave a copy right, at the limits.
func rightCacheChanges() []cacheChange {
	list := []cacheChange{{"nothing", func(c *impl.Cache) {}}}
	for _, name := range rightBoxNames() {
		list = append(list, cacheChange{"a name", func(c *impl.Cache) { c.Box = name }})
	}
	for _, n := range []int{0, 1, 2, 3, 5000, 9998, 9999} {
		list = append(list, cacheChange{"Valid", func(c *impl.Cache) { c.Valid = n }},
			cacheChange{"Valid, with nothing seen", func(c *impl.Cache) { c.Valid, c.Mod, c.Seens = n, 0, nil }})
	}
	for _, n := range []int{20, 21, 65537, 99999, 100000} {
		list = append(list, cacheChange{"Mod", func(c *impl.Cache) { c.Mod = n }})
	}
	for _, n := range []int{0, 1, 2, 99999, 100000} {
		list = append(list, cacheChange{"Mod, with nothing seen", func(c *impl.Cache) { c.Mod, c.Seens = n, []impl.Seen{} }})
	}
	for _, n := range []int{1, 2, 100000} {
		list = append(list, cacheChange{"Mod, with all of that Mod", func(c *impl.Cache) { c.Mod, c.Seens = n, seenRow(30, 1, 1, n) }})
	}
	for _, seens := range [][]impl.Seen{
		nil, {seenAs(1, 0, 1)}, {seenAs(9999, 31, 20)}, {seenAs(1, 31, 20), seenAs(9999, 0, 1)}, seenRow(3, 9997, 1, 9), seenRow(29, 1, 1, 5), seenRow(30, 1, 1, 5), seenRow(30, 9970, 1, 20), seenRow(30, 3, 300, 1),
	} {
		list = append(list, cacheChange{"Seens", func(c *impl.Cache) { c.Seens = seens }})
	}
	for bits := range 32 {
		list = append(list, cacheChange{"Flags", func(c *impl.Cache) { c.Seens[bits%5].Flags = bits }})
	}
	return list
}

// wrongCacheChanges make a copy that is not right, in one field.
func wrongCacheChanges() []cacheChange {
	var list []cacheChange
	for _, name := range append(wrongBoxNames(), oddTexts()...) {
		list = append(list, cacheChange{"a wrong name", func(c *impl.Cache) { c.Box = name }})
	}
	for _, n := range []int{-1, -3, 10000, 10001, 1<<32 + 3, math.MinInt, math.MaxInt} {
		list = append(list, cacheChange{"a wrong Valid", func(c *impl.Cache) { c.Valid = n }},
			cacheChange{"a wrong Valid, with nothing seen", func(c *impl.Cache) { c.Valid, c.Seens = n, nil }})
	}
	for _, n := range []int{-1, -20, 100001, 100002, 1<<32 + 20, math.MinInt, math.MaxInt} {
		list = append(list, cacheChange{"a wrong Mod", func(c *impl.Cache) { c.Mod = n }},
			cacheChange{"a wrong Mod, with nothing seen", func(c *impl.Cache) { c.Mod, c.Seens = n, nil }})
	}
	for _, n := range []int{0, 1, 18, 19} {
		list = append(list, cacheChange{"a Mod below that of a Seen", func(c *impl.Cache) { c.Mod = n }})
	}
	for at := range 5 {
		for _, n := range []int{0, -1, -2, 10000, 10001, 1<<32 + 5, math.MinInt, math.MaxInt} {
			list = append(list, cacheChange{"a wrong Uid", func(c *impl.Cache) { c.Seens[at].Uid = n }},
				cacheChange{"a wrong Uid alone", func(c *impl.Cache) { c.Seens = []impl.Seen{seenAs(n, 1, 1)} }})
		}
		for _, n := range []int{-1, -31, 32, 33, 64, 1<<32 + 1, math.MinInt, math.MaxInt} {
			list = append(list, cacheChange{"wrong Flags", func(c *impl.Cache) { c.Seens[at].Flags = n }})
		}
		for _, n := range []int{0, -1, -20, 21, 22, 100000, 1<<32 + 1, math.MinInt, math.MaxInt} {
			list = append(list, cacheChange{"a wrong Mod of a Seen", func(c *impl.Cache) { c.Seens[at].Mod = n }})
		}
		list = append(list, cacheChange{"a Seen twice", func(c *impl.Cache) { c.Seens = slices.Insert(c.Seens, at, c.Seens[at]) }},
			cacheChange{"a Uid twice", func(c *impl.Cache) { c.Seens[at].Uid = c.Seens[(at+1)%5].Uid }},
			cacheChange{"Seens out of order", func(c *impl.Cache) { c.Seens[at], c.Seens[(at+1)%5] = c.Seens[(at+1)%5], c.Seens[at] }})
	}
	for _, seens := range [][]impl.Seen{seenRow(31, 1, 1, 5), seenRow(31, 9969, 1, 20), seenRow(90, 1, 2, 1), seenRow(5000, 1, 1, 1), seenRow(30, 31, -1, 1), seenRow(2, 9999, 1, 1), make([]impl.Seen, 1), make([]impl.Seen, 30)} {
		list = append(list, cacheChange{"wrong Seens", func(c *impl.Cache) { c.Seens = seens }})
	}
	return append(list, cacheChange{"a Seen of the Mod 0, and the Mod 0", func(c *impl.Cache) { c.Mod, c.Seens = 0, []impl.Seen{seenAs(1, 0, 0)} }},
		cacheChange{"the zero value", func(c *impl.Cache) { *c = impl.Cache{} }})
}

func TestCacheOk(t *testing.T) {
	for _, change := range rightCacheChanges() {
		wantCacheOk(t, change.what, changedCache(change), true)
	}
	for _, change := range wrongCacheChanges() {
		wantCacheOk(t, change.what, changedCache(change), false)
	}
	wantCacheOk(t, "nothing", impl.Cache{Box: "inbox"}, true)
}

// Small copies, of which each number is at a limit or beside it now and then.
func TestCacheOkOfDrawnCaches(t *testing.T) {
	r := rand.New(rand.NewSource(170))
	counts := map[bool]int{}
	for range 40000 {
		c := cacheAt(r.Intn(12)-1, r.Intn(7)-1)
		for range r.Intn(4) {
			c.Seens = append(c.Seens, seenAs(r.Intn(9), r.Intn(35)-1, r.Intn(5)))
		}
		if r.Intn(4) > 0 {
			slices.SortFunc(c.Seens, func(a impl.Seen, b impl.Seen) int { return a.Uid - b.Uid })
		}
		want := plainCacheOk(c)
		wantCacheOk(t, "drawn numbers", c, want)
		counts[want]++
	}
	if counts[true] < 5000 || counts[false] < 5000 {
		t.Errorf("right and wrong are %v", counts)
	}
}

func TestCacheWords(t *testing.T) {
	wantCacheWords(t, impl.Cache{Box: "inbox"}, "select", "inbox")
	wantCacheWords(t, impl.Cache{Box: "zzzzzzzz", Mod: 100000}, "select", "zzzzzzzz")
	wantCacheWords(t, cacheAt(0, 5, seenAs(1, 2, 3)), "select", "inbox")
	wantCacheWords(t, cacheAt(1, 0), "select", "inbox", "1", "0")
	wantCacheWords(t, cacheAt(1, 1), "select", "inbox", "1", "1")
	wantCacheWords(t, cacheAt(9999, 100000, seenAs(9999, 31, 100000)), "select", "inbox", "9999", "100000")
	wantCacheWords(t, someCache(), "select", "inbox", "3", "20")
	for _, change := range rightCacheChanges() {
		c := changedCache(change)
		words := plainCacheWords(c)
		wantCacheWords(t, c, words...)
		// They are the words of a command, which comes back from its text.
		text, ok := impl.CommandText(words)
		if read, _, code := impl.ReadCommand(text); !ok || code != 0 || !slices.Equal(read, words) || (len(words) == 4) != (c.Valid > 0) {
			t.Fatalf("%s are told by %q", wordsTold(words), text)
		}
	}
	for _, change := range wrongCacheChanges() {
		wantCacheWords(t, changedCache(change))
	}
	wantCacheWords(t, cacheAt(10000, 0))
	wantCacheWords(t, cacheAt(-1, 0))
	wantCacheWords(t, cacheAt(1, -1))
	wantCacheWords(t, cacheAt(1, 100001))
	wantCacheWords(t, impl.Cache{Valid: 1, Mod: 1})
}

// What a copy of 2, 5 and 9 becomes, line by line.
func TestCacheTake(t *testing.T) {
	a, b, z := seenAs(2, 1, 4), seenAs(5, 0, 7), seenAs(9, 31, 10)
	c := cacheAt(3, 10, a, b, z)
	for _, x := range []struct {
		lines string
		want  impl.Cache
	}{
		{"* valid 3 modseq 10", c},
		{"* valid 3 modseq 11", cacheAt(3, 11, a, b, z)},
		{"* valid 3 modseq 100000", cacheAt(3, 100000, a, b, z)},
		{"* valid 3 modseq 10 all", cacheAt(3, 10)},
		{"* valid 3 modseq 1 all", cacheAt(3, 1)},
		{"* valid 4 modseq 10", cacheAt(4, 10)},
		{"* valid 2 modseq 1", cacheAt(2, 1)},
		{"* valid 1 modseq 100000 all", cacheAt(1, 100000)},
		{"* valid 9999 modseq 7", cacheAt(9999, 7)},
		// The Mod of 9 is above this one.
		{"* valid 3 modseq 9", c},
		{"* valid 3 modseq 1", c},
		{"* valid 3 modseq 9; * vanished 9", cacheAt(3, 9, a, b)},
		{"* vanished 9; * valid 3 modseq 7", cacheAt(3, 7, a, b)},
		{"* valid 3 modseq 7; * 1 fetch (uid 9 flags () modseq 7)", cacheAt(3, 7, a, b, seenAs(9, 0, 7))},
		{"* vanished 2", cacheAt(3, 10, b, z)},
		{"* vanished 5", cacheAt(3, 10, a, z)},
		{"* vanished 9", cacheAt(3, 10, a, b)},
		{"* vanished 2,9", cacheAt(3, 10, b)},
		{"* vanished 1,3:4,6:8,10:9999", c},
		{"* vanished 1:5", cacheAt(3, 10, z)},
		{"* vanished 3:9", cacheAt(3, 10, a)},
		{"* vanished 1:9999", cacheAt(3, 10)},
		{"* vanished 1", c},
		{"* vanished 9999", c},
		{"* vanished 2; * vanished 9; * vanished 2", cacheAt(3, 10, b)},
		{"* 1 fetch (uid 2 flags (draft) modseq 10)", cacheAt(3, 10, seenAs(2, 16, 10), b, z)},
		{"* 9 fetch (uid 5 flags (seen) modseq 1)", cacheAt(3, 10, a, seenAs(5, 1, 1), z)},
		{"* 30 fetch (uid 9 flags () modseq 10)", cacheAt(3, 10, a, b, seenAs(9, 0, 10))},
		{"* 1 fetch (uid 1 flags (seen) modseq 3)", cacheAt(3, 10, seenAs(1, 1, 3), a, b, z)},
		{"* 3 fetch (uid 3 flags (seen) modseq 3)", cacheAt(3, 10, a, seenAs(3, 1, 3), b, z)},
		{"* 1 fetch (uid 8 flags () modseq 10)", cacheAt(3, 10, a, b, seenAs(8, 0, 10), z)},
		{"* 1 fetch (uid 10 flags () modseq 1)", cacheAt(3, 10, a, b, z, seenAs(10, 0, 1))},
		{"* 2 fetch (uid 9999 flags () modseq 1)", cacheAt(3, 10, a, b, z, seenAs(9999, 0, 1))},
		// Its Mod is above the copy's, which is told behind it, or ahead.
		{"* 1 fetch (uid 2 flags () modseq 11)", c},
		{"* 1 fetch (uid 2 flags () modseq 100000)", c},
		{"* 1 fetch (uid 2 flags () modseq 11); * valid 3 modseq 11", cacheAt(3, 11, seenAs(2, 0, 11), b, z)},
		{"* valid 3 modseq 11; * 1 fetch (uid 2 flags () modseq 11)", cacheAt(3, 11, seenAs(2, 0, 11), b, z)},
		{"* valid 3 modseq 11; * 1 fetch (uid 2 flags () modseq 12)", c},
		{"* 1 fetch (uid 2 flags () modseq 11); * vanished 2", cacheAt(3, 10, b, z)},
		{"* 1 fetch (uid 2 flags () modseq 11); * 1 fetch (uid 2 flags () modseq 10)", cacheAt(3, 10, seenAs(2, 0, 10), b, z)},
		// What comes last counts.
		{"* vanished 5; * 1 fetch (uid 5 flags (seen) modseq 9)", cacheAt(3, 10, a, seenAs(5, 1, 9), z)},
		{"* 1 fetch (uid 5 flags (seen) modseq 9); * vanished 5", cacheAt(3, 10, a, z)},
		{"* 1 fetch (uid 5 flags (seen) modseq 9); * 1 fetch (uid 5 flags () modseq 8)", cacheAt(3, 10, a, seenAs(5, 0, 8), z)},
		{"* valid 3 modseq 10 all; * 1 fetch (uid 5 flags () modseq 8)", cacheAt(3, 10, seenAs(5, 0, 8))},
		{"* 1 fetch (uid 5 flags () modseq 8); * valid 3 modseq 10 all", cacheAt(3, 10)},
		{"* valid 4 modseq 5; * 1 fetch (uid 5 flags () modseq 4); * valid 4 modseq 6", cacheAt(4, 6, seenAs(5, 0, 4))},
		{"* valid 4 modseq 5; * 1 fetch (uid 5 flags () modseq 4); * valid 4 modseq 6 all", cacheAt(4, 6)},
		{"* valid 4 modseq 5; * 1 fetch (uid 5 flags () modseq 4); * valid 3 modseq 6", cacheAt(3, 6)},
		{"* valid 4 modseq 20; * valid 3 modseq 10", cacheAt(3, 10)},
	} {
		wantCacheTaken(t, c, linesOf(t, x.lines), x.want)
		wantCacheTakenAsPlain(t, c, linesOf(t, x.lines)...)
	}
	wantCacheTaken(t, impl.Cache{Box: "a"}, linesOf(t, "* valid 7 modseq 2; * 1 fetch (uid 1 flags (seen) modseq 2)"), impl.Cache{Box: "a", Valid: 7, Mod: 2, Seens: []impl.Seen{seenAs(1, 1, 2)}})
	wantCacheTaken(t, impl.Cache{Box: "a"}, linesOf(t, "* 1 fetch (uid 1 flags (seen) modseq 2)"), impl.Cache{Box: "a"})
	wantCacheTaken(t, cacheAt(0, 4, a), linesOf(t, "* 1 fetch (uid 1 flags (seen) modseq 4)"), cacheAt(0, 4, seenAs(1, 1, 4), a))
	wantCacheTaken(t, cacheAt(0, 4, a), linesOf(t, "* valid 1 modseq 4"), cacheAt(1, 4))
}

// Lines of all other kinds change nothing, wherever they stand, and no lines change nothing.
func TestCacheTakeOfOtherLines(t *testing.T) {
	others := linesOf(t, "* 0 exists; * 3 exists; * 30 exists; * 1 expunge; * 30 expunge; * search; * search 2:9; * search 1:9999; ok; no 1; no 9; bye")
	for _, change := range rightCacheChanges() {
		c := changedCache(change)
		wantCacheAsItIs(t, c)
		wantCacheAsItIs(t, c, []impl.Line{}...)
		wantCacheAsItIs(t, c, others...)
		for _, x := range others {
			wantCacheAsItIs(t, c, x)
			wantCacheAsItIs(t, c, x, x)
		}
	}
	news := linesOf(t, "* valid 3 modseq 22; * vanished 3,8; * 1 fetch (uid 2 flags (draft) modseq 21); * 2 fetch (uid 12 flags () modseq 22)")
	want := wantCacheTakenAsPlain(t, someCache(), news...)
	for at := range len(news) + 1 {
		for _, x := range others {
			wantCacheTaken(t, someCache(), slices.Insert(slices.Clone(news), at, x), want)
		}
		wantCacheTaken(t, someCache(), slices.Insert(slices.Clone(news), at, others...), want)
	}
}

// A Valid of its own keeps what is seen, each other one does not; with All nothing is kept.
func TestCacheTakeOfValids(t *testing.T) {
	for _, own := range []int{0, 1, 2, 3, 5000, 9998, 9999} {
		c := someCache()
		c.Valid = own
		for _, told := range []int{1, 2, 3, 5000, 9998, 9999} {
			for _, mod := range []int{1, 19, 20, 21, 99999, 100000} {
				wantCacheTaken(t, c, []impl.Line{validLine(told, mod, true)}, cacheAt(told, mod))
				want := cacheAt(told, mod)
				switch {
				case own == told && mod < 20:
					want = c
				case own == told:
					want.Seens = c.Seens
				}
				wantCacheTaken(t, c, []impl.Line{validLine(told, mod, false)}, want)
				wantCacheTaken(t, c, []impl.Line{validLine(told, mod, false), validLine(told, mod, false)}, want)
			}
		}
		for _, told := range []int{0, -1, 10000, math.MaxInt} {
			wantCacheAsItIs(t, c, validLine(told, 20, true))
			wantCacheAsItIs(t, c, validLine(told, 20, false))
		}
		for _, mod := range []int{0, -1, 100001, math.MaxInt} {
			wantCacheAsItIs(t, c, validLine(3, mod, true))
			wantCacheAsItIs(t, c, validLine(4, mod, false))
		}
	}
}

// Every set of numbers up to 7 vanishes from every copy of some of these.
func TestCacheTakeOfAllThatVanishes(t *testing.T) {
	for bits := range 1 << 7 {
		c := cacheAt(2, 9)
		for n := range 7 {
			if bits>>n&1 == 1 {
				c.Seens = append(c.Seens, seenAs(n+1, n, n+2))
			}
		}
		for gone := 1; gone < 1<<7; gone++ {
			set := subset(gone, 7, 1)
			got := wantCacheTakenAsPlain(t, c, setLine(lnVanished, set...))
			for _, s := range got.Seens {
				if inSet(set, s.Uid) {
					t.Fatalf("%v vanished, and seen is %v", set, got.Seens)
				}
			}
		}
	}
	for _, s := range rightSets() {
		for _, change := range rightCacheChanges() {
			wantCacheTakenAsPlain(t, changedCache(change), setLine(lnVanished, s...))
		}
	}
}

// One is told of each Uid, into every list of a few; it comes into its place.
func TestCacheTakeOfAllThatIsFetched(t *testing.T) {
	for bits := range 1 << 6 {
		c := cacheAt(2, 9)
		for n := range 6 {
			if bits>>n&1 == 1 {
				c.Seens = append(c.Seens, seenAs(2*n+2, n, n+2))
			}
		}
		for uid := 1; uid <= 14; uid++ {
			got := wantCacheTakenAsPlain(t, c, fetchLine(1+uid%30, uid, 13, 8))
			if !slices.Contains(got.Seens, seenAs(uid, 13, 8)) {
				t.Fatalf("the mail %d was told, and seen is %v", uid, got.Seens)
			}
			for other := 1; other <= 14; other++ {
				wantCacheTakenAsPlain(t, c, fetchLine(1, uid, 1, 9), fetchLine(1, other, 2, 8))
			}
		}
	}
	for _, change := range rightCacheChanges() {
		c := changedCache(change)
		for _, uid := range []int{1, 2, 3, 4, 9, 10, 9998, 9999} {
			for _, mod := range []int{1, c.Mod - 1, c.Mod, c.Mod + 1, 100000} {
				wantCacheTakenAsPlain(t, c, fetchLine(30, uid, 31, mod))
				wantCacheTakenAsPlain(t, c, fetchLine(1, uid, 0, mod), validLine(c.Valid+1, mod, false))
				wantCacheTakenAsPlain(t, c, validLine(c.Valid+1, mod, false), fetchLine(1, uid, 0, mod))
			}
		}
	}
}

// News of various mails come to the same in whatever order, and twice.
func TestCacheTakeInWhateverOrder(t *testing.T) {
	want := cacheAt(3, 25, seenAs(2, 0, 22), seenAs(4, 16, 25), seenAs(5, 8, 20), seenAs(12, 1, 21))
	texts := []string{"* valid 3 modseq 25", "* vanished 3,8:9", "* 1 fetch (uid 2 flags () modseq 22)", "* 4 fetch (uid 12 flags (seen) modseq 21)", "* 2 fetch (uid 4 flags (draft) modseq 25)", "* 4 exists"}
	count := 0
	for _, order := range orders(texts) {
		lines := linesOf(t, strings.Join(append(order, "ok"), "; "))
		wantCacheTakenAsPlain(t, someCache(), lines...)
		if len(order) < len(texts) {
			continue
		}
		count++
		wantCacheTaken(t, someCache(), lines, want)
		wantCacheTaken(t, someCache(), append(lines, lines...), want)
		wantCacheTaken(t, want, lines, want)
	}
	if count != 720 {
		t.Errorf("there are %d orders", count)
	}
	// What is of one Uid, or clears all, is not the same in another order.
	count = 0
	for _, order := range orders([]string{"* valid 3 modseq 25", "* valid 4 modseq 30", "* valid 3 modseq 22 all", "* vanished 2:5", "* 1 fetch (uid 2 flags () modseq 22)", "* 1 fetch (uid 2 flags (seen) modseq 24)"}) {
		if len(order) > 0 {
			lines := linesOf(t, strings.Join(order, "; "))
			got := wantCacheTakenAsPlain(t, someCache(), lines...)
			wantCacheTakenAsPlain(t, got, lines...)
			count++
		}
	}
	if count < 1000 {
		t.Errorf("there are %d orders", count)
	}
}

// fetchRow tells of count mails.
func fetchRow(count int, from int, step int, mod int) []impl.Line {
	var lines []impl.Line
	for i, s := range seenRow(count, from, step, mod) {
		lines = append(lines, fetchLine(1+i%30, s.Uid, s.Flags, s.Mod))
	}
	return lines
}

// As many as may be seen are seen at the end; on the way there may be more.
func TestCacheTakeOfMostMails(t *testing.T) {
	empty := cacheAt(3, 20)
	for _, step := range []int{1, 300, 333} {
		wantCacheTaken(t, empty, fetchRow(30, 3, step, 20), cacheAt(3, 20, seenRow(30, 3, step, 20)...))
	}
	backward := fetchRow(30, 30, 1, 7)
	slices.Reverse(backward)
	wantCacheTaken(t, empty, backward, cacheAt(3, 20, seenRow(30, 30, 1, 7)...))
	wantCacheTaken(t, cacheAt(3, 20, seenRow(29, 1, 1, 5)...), fetchRow(1, 30, 1, 5), cacheAt(3, 20, seenRow(30, 1, 1, 5)...))
	wantCacheTaken(t, cacheAt(3, 20, seenRow(29, 2, 1, 5)...), fetchRow(1, 1, 1, 5), cacheAt(3, 20, seenRow(30, 1, 1, 5)...))
	wantCacheAsItIs(t, empty, fetchRow(31, 1, 1, 20)...)
	wantCacheAsItIs(t, empty, fetchRow(9999, 1, 1, 20)...)
	wantCacheAsItIs(t, cacheAt(3, 20, seenRow(29, 1, 1, 5)...), fetchRow(2, 40, 1, 5)...)
	full := cacheAt(3, 20, seenRow(30, 2, 2, 5)...)
	for uid := 1; uid <= 62; uid++ {
		x, even := fetchLine(1, uid, 9, 20), uid%2 == 0 && uid <= 60
		got := wantCacheTakenAsPlain(t, full, x)
		if sameCache(got, full) == even {
			t.Fatalf("one more than may be, %d: %s", uid, cacheTold(got))
		}
		// One more than may be counts where another one is gone, told ahead of it or behind.
		gone := setLine(lnVanished, span(8, 8))
		one := wantCacheTakenAsPlain(t, full, x, gone)
		two := wantCacheTakenAsPlain(t, full, gone, x)
		if sameCache(one, full) || sameCache(two, full) || len(two.Seens) != 30-boolNumber(even && uid != 8) {
			t.Fatalf("with 8 gone, and %d told: %s and %s", uid, cacheTold(one), cacheTold(two))
		}
	}
	wantCacheTaken(t, full, append(fetchRow(500, 1, 3, 9), setLine(lnVanished, span(1, 9998))), empty)
	wantCacheTaken(t, full, append(fetchRow(500, 1, 3, 9), validLine(3, 20, true)), empty)
	wantCacheTaken(t, full, append(fetchRow(500, 1, 3, 9), validLine(4, 20, false)), cacheAt(4, 20))
	wantCacheTaken(t, full, append([]impl.Line{validLine(4, 20, false)}, fetchRow(30, 1, 1, 9)...), cacheAt(4, 20, seenRow(30, 1, 1, 9)...))
	wantCacheAsItIs(t, full, append([]impl.Line{validLine(4, 20, false)}, fetchRow(31, 1, 1, 9)...)...)
	wantCacheTaken(t, full, slices.Repeat(fetchRow(30, 2, 2, 20), 300), cacheAt(3, 20, seenRow(30, 2, 2, 20)...))
}

// Where one line is not right, none is taken, whatever the others tell and wherever it stands.
func TestCacheTakeOfWrongLines(t *testing.T) {
	news := linesOf(t, "* valid 3 modseq 22; * vanished 3,8; * 1 fetch (uid 2 flags (draft) modseq 21)")
	wrong := []impl.Line{
		{}, numLine(10, 0), numLine(-1, 1), {Kind: math.MaxInt}, numLine(lnExists, 31), numLine(lnExpunge, 0), numLine(lnNo, 0), numLine(lnNo, 10), numLine(lnOk, 1), numLine(lnBye, 1),
		setLine(lnVanished), setLine(lnVanished, span(0, 9)), setLine(lnVanished, span(9, 10000)), setLine(lnVanished, span(5, 2)), setLine(lnVanished, span(2, 3), span(4, 5)), setLine(lnVanished, span(9, 9), span(2, 2)), setLine(lnVanished, sparse(41, 1, 1, 1)...), setLine(lnSearch, span(0, 0)),
		fetchLine(0, 2, 1, 20), fetchLine(31, 2, 1, 20), fetchLine(1, 0, 1, 20), fetchLine(1, 10000, 1, 20), fetchLine(1, 2, -1, 20), fetchLine(1, 2, 32, 20), fetchLine(1, 2, 1, 0), fetchLine(1, 2, 1, 100001),
		validLine(0, 20, false), validLine(10000, 20, true), validLine(3, 0, true), validLine(3, 100001, false), {Kind: lnValid, Num: 3, Mod: 20, Uid: 1}, {Kind: lnFetch, Num: 1, Uid: 2, Mod: 20, All: true},
	}
	for kind := 1; kind <= 9; kind++ {
		for _, change := range lineChanges() {
			if x := changedLine(someLine(kind), change); !plainLineOk(x) {
				wrong = append(wrong, x)
			}
		}
	}
	if len(wrong) < 300 {
		t.Fatalf("just %d lines are not right", len(wrong))
	}
	for _, x := range wrong {
		if impl.LineOk(x) {
			t.Fatalf("%s is right", lineTold(x))
		}
		wantCacheAsItIs(t, someCache(), x)
		wantCacheAsItIs(t, impl.Cache{Box: "inbox"}, x)
		for at := range len(news) + 1 {
			wantCacheAsItIs(t, someCache(), slices.Insert(slices.Clone(news), at, x)...)
		}
		// It counts also where nothing of it would be left.
		wantCacheAsItIs(t, someCache(), x, validLine(4, 9, true))
	}
	for kind := 1; kind <= 9; kind++ {
		for _, change := range lineChanges() {
			x := changedLine(someLine(kind), change)
			wantCacheTakenAsPlain(t, someCache(), x)
			wantCacheTakenAsPlain(t, someCache(), news[0], x, news[2])
		}
	}
}

// A copy that is not right stays as it is, field by field, whatever it is told, also where it would become right by that.
func TestCacheTakeOfWrongCaches(t *testing.T) {
	news := linesOf(t, "* valid 3 modseq 22; * vanished 3,8; * 1 fetch (uid 2 flags (draft) modseq 21)")
	all := linesOf(t, "* valid 4 modseq 9 all; * 1 exists; * 1 fetch (uid 7 flags () modseq 3); ok")
	for _, change := range wrongCacheChanges() {
		c := changedCache(change)
		wantCacheAsItIs(t, c)
		wantCacheAsItIs(t, c, news...)
		wantCacheAsItIs(t, c, all...)
		wantCacheAsItIs(t, c, setLine(lnVanished, span(1, 9999)))
		wantCacheAsItIs(t, c, validLine(3, 100000, false))
		wantCacheAsItIs(t, c, fetchLine(1, 2, 1, 1))
		wantCacheAsItIs(t, c, impl.Line{})
		for _, x := range someLines() {
			wantCacheAsItIs(t, c, x)
		}
	}
}

// drawnNews is a line that is of use to a copy of a Mod, or now and then another one, or one that is not right.
func drawnNews(r *rand.Rand, mod int) impl.Line {
	switch r.Intn(20) {
	case 0:
		return validLine(1+boolNumber(r.Intn(9) == 0), max(1, mod-2+r.Intn(6)), r.Intn(9) == 0)
	case 1, 2:
		lo := 1 + r.Intn(40)
		return setLine(lnVanished, span(lo, lo+r.Intn(3)), span(lo+8, lo+8+r.Intn(3)))
	case 3:
		return drawnLine(r)
	}
	x := fetchLine(1+r.Intn(30), 1+r.Intn(45), r.Intn(32), 1+r.Intn(mod+1))
	if r.Intn(40) == 0 {
		x.Flags += 20
	}
	return x
}

// Copies take drawn lines, a few at a time; each answer is the document's.
func TestDrawnCachesTake(t *testing.T) {
	counts := map[string]int{}
	for seed := range 40 {
		r := rand.New(rand.NewSource(int64(1700 + seed)))
		c := impl.Cache{Box: "inbox", Mod: 12 * (seed % 2)}
		for range 400 {
			var lines []impl.Line
			for range r.Intn(5) {
				lines = append(lines, drawnNews(r, min(c.Mod, 60)))
			}
			got := wantCacheTakenAsPlain(t, c, lines...)
			switch {
			case !sameCache(got, c):
				counts["taken"]++
			case slices.ContainsFunc(lines, func(x impl.Line) bool { return !plainLineOk(x) }):
				counts["a wrong line"]++
			case len(lines) > 0:
				counts["as it is"]++
			}
			counts["most"] += boolNumber(len(got.Seens) == mostMails)
			c = got
		}
	}
	if counts["as it is"] < 1000 || counts["taken"] < 4000 || counts["a wrong line"] < 200 || counts["most"] < 500 {
		t.Errorf("the counts are %v", counts)
	}
}

// A copy is of the box as it is: nothing else of either counts.
func TestCacheSame(t *testing.T) {
	b := someBox()
	wantCacheSame(t, someCache(), b, true)
	for _, change := range slices.Concat(rightCacheChanges(), wrongCacheChanges()) {
		c := changedCache(change)
		wantCacheSame(t, c, b, plainCacheSame(c, b))
		if c.Box != b.Name || c.Valid != b.Valid || c.Mod != b.Mod || len(c.Seens) != len(b.Mails) {
			wantCacheSame(t, c, b, false)
		}
	}
	for _, other := range changedBoxes(slices.Concat(rightChanges(), wrongChanges())) {
		wantCacheSame(t, someCache(), other, plainCacheSame(someCache(), other))
		wantCacheSame(t, cacheOf(other), other, true)
		wantCacheSame(t, cacheOf(other), b, plainCacheSame(someCache(), other))
	}
	for i := range b.Mails {
		for _, n := range []int{-1, 1, 16, 1 << 32} {
			for field := range 3 {
				c := someCache()
				numbers := []*int{&c.Seens[i].Uid, &c.Seens[i].Flags, &c.Seens[i].Mod}
				*numbers[field] += n
				wantCacheSame(t, c, b, false)
			}
		}
		c := someCache()
		c.Seens = slices.Delete(c.Seens, i, i+1)
		wantCacheSame(t, c, b, false)
		c = someCache()
		c.Seens = slices.Insert(c.Seens, i, seenAs(1, 0, 1))
		wantCacheSame(t, c, b, false)
		c = someCache()
		c.Seens[i], c.Seens[(i+1)%5] = c.Seens[(i+1)%5], c.Seens[i]
		wantCacheSame(t, c, b, false)
	}
	// What a copy does not tell may be another one.
	b.Next, b.Horizon, b.Tombs = 9999, 20, nil
	for i := range b.Mails {
		b.Mails[i].Text = "another one"
	}
	wantCacheSame(t, someCache(), b, true)
	wantCacheSame(t, impl.Cache{}, impl.Box{}, true)
	wantCacheSame(t, impl.Cache{}, someBox(), false)
	wantCacheSame(t, someCache(), impl.Box{}, false)
	empty := emptyBox("work", 7)
	wantCacheSame(t, impl.Cache{Box: "work"}, empty, false)
	wantCacheSame(t, impl.Cache{Box: "work", Valid: 7}, empty, false)
	wantCacheSame(t, impl.Cache{Box: "work", Valid: 7, Mod: 1}, empty, true)
	wantCacheSame(t, impl.Cache{Box: "work", Valid: 7, Mod: 1, Seens: []impl.Seen{}}, empty, true)
	wantCacheSame(t, impl.Cache{Box: "word", Valid: 7, Mod: 1}, empty, false)
	wantCacheSame(t, impl.Cache{Box: "work", Valid: 7, Mod: 2}, empty, false)
	wantCacheSame(t, impl.Cache{Box: "work", Valid: 7, Mod: 1, Seens: []impl.Seen{{}}}, empty, false)
}

// catchUp lets the copy ask by a command and take the lines, both told by their texts; it has what becomes of it, and the lines.
func catchUp(t *testing.T, s impl.Store, c impl.Cache) (impl.Cache, []impl.Line) {
	t.Helper()
	wantCacheWords(t, c, plainCacheWords(c)...)
	text, ok := impl.CommandText(impl.CacheWords(c))
	words, _, code := impl.ReadCommand(text)
	if !ok || code != 0 {
		t.Fatalf("the words of %s are no command", cacheTold(c))
	}
	got := served(s, impl.Session{}, words)
	lines := linesOf(t, textOfLines(t, got.lines))
	took := wantCacheTakenAsPlain(t, c, lines...)
	wantCacheTaken(t, took, lines, took)
	wantCacheTaken(t, c, append(lines, lines...), took)
	return took, lines
}

// wantCaughtUp holds that the copy is the same as its box once it caught up, and that there is nothing to tell but the count then; it has what was told, too. Where there is no such box, the copy stays as it is.
func wantCaughtUp(t *testing.T, s impl.Store, c impl.Cache) (impl.Cache, []impl.Line) {
	t.Helper()
	took, lines := catchUp(t, s, c)
	b, there := plainBoxAt(s, c.Box)
	if !there {
		wantCacheAsItIs(t, c, lines...)
		return took, lines
	}
	if !sameCache(took, cacheOf(b)) || !impl.CacheSame(took, b) || !impl.CacheOk(took) {
		t.Fatalf("behind %s the copy %s is %s; the box is %s", linesTold(lines), cacheTold(c), cacheTold(took), boxTold(b))
	}
	again, count := catchUp(t, s, took)
	if want := fmt.Sprintf("* valid %d modseq %d; * %d exists; ok", b.Valid, b.Mod, len(b.Mails)); textOfLines(t, count) != want || !sameCache(again, took) {
		t.Fatalf("once more %s is told, and the copy %s is %s", linesTold(count), cacheTold(took), cacheTold(again))
	}
	return took, lines
}

// copyStep is a command that a session does, or `forget BOX MOD`; and what the copy of a box is told then.
type copyStep struct {
	line string
	copy string
	want string
}

// copySteps are of copies of inbox and work, which begin from nothing.
func copySteps() []copyStep {
	return []copyStep{
		{"noop", "inbox", "* valid 1 modseq 1 all; * 0 exists; ok"},
		{"noop", "work", "no 1"},
		{"add inbox (seen) a", "", ""},
		{"add inbox () b", "inbox", "* valid 1 modseq 3; * 2 exists; * 1 fetch (uid 1 flags (seen) modseq 2); * 2 fetch (uid 2 flags () modseq 3); ok"},
		{"add inbox () c", "", ""},
		{"store 1,3 + (deleted)", "inbox", "* valid 1 modseq 5; * 3 exists; * 1 fetch (uid 1 flags (seen deleted) modseq 5); * 3 fetch (uid 3 flags (deleted) modseq 5); ok"},
		{"store 1 + (deleted)", "inbox", "* valid 1 modseq 5; * 3 exists; ok"},
		{"expunge 3", "inbox", "* valid 1 modseq 6; * 2 exists; * vanished 3; ok"},
		{"add inbox (draft) d", "", ""},
		{"expunge", "", ""},
		// The mail 5 comes and goes unseen.
		{"add inbox (deleted) e", "", ""},
		{"expunge", "", ""},
		{"store 2 + (answered)", "inbox", "* valid 1 modseq 11; * 2 exists; * vanished 1,5; * 1 fetch (uid 2 flags (answered) modseq 11); * 2 fetch (uid 4 flags (draft) modseq 7); ok"},
		// The copy is as old as the last that is still told.
		{"forget inbox 11", "inbox", "* valid 1 modseq 11; * 2 exists; ok"},
		{"store 4 + (deleted)", "", ""},
		{"expunge", "", ""},
		{"forget inbox 11", "inbox", "* valid 1 modseq 13; * 1 exists; * vanished 4; ok"},
		{"store 2 + (flagged)", "", ""},
		{"forget inbox 14", "inbox", "* valid 1 modseq 14 all; * 1 exists; * 1 fetch (uid 2 flags (answered flagged) modseq 14); ok"},
		{"make work", "work", "* valid 2 modseq 1 all; * 0 exists; ok"},
		{"copy 2 work", "work", "* valid 2 modseq 2; * 1 exists; * 1 fetch (uid 1 flags (answered flagged) modseq 2); ok"},
		{"move 2 work", "work", "* valid 2 modseq 3; * 2 exists; * 2 fetch (uid 2 flags (answered flagged) modseq 3); ok"},
		{"noop", "inbox", "* valid 1 modseq 16; * 0 exists; * vanished 2; ok"},
		{"drop work", "work", "no 1"},
		{"make work", "work", "* valid 3 modseq 1 all; * 0 exists; ok"},
		// The box that is made anew comes to the Mod that the copy has, with the same Uid.
		{"add work (answered flagged) x", "work", "* valid 3 modseq 2; * 1 exists; * 1 fetch (uid 1 flags (answered flagged) modseq 2); ok"},
		{"drop work", "", ""},
		{"make work", "", ""},
		{"add work (answered flagged) y", "work", "* valid 4 modseq 2 all; * 1 exists; * 1 fetch (uid 1 flags (answered flagged) modseq 2); ok"},
		{"noop", "inbox", "* valid 1 modseq 16; * 0 exists; ok"},
	}
}

func TestCopiesCatchUp(t *testing.T) {
	s := impl.StoreNew()
	copies := map[string]impl.Cache{"inbox": {Box: "inbox"}, "work": {Box: "work"}}
	for _, step := range copySteps() {
		if words := strings.Fields(step.line); words[0] == "forget" {
			mod, _ := strconv.Atoi(words[2])
			code := 0
			if s, code = impl.Apply(s, impl.Edit{Kind: edForget, Box: words[1], Since: mod}); code != 0 {
				t.Fatalf("%s is refused", step.line)
			}
		} else {
			got := wantServed(t, s, lookingAt(s, "inbox"), wordsOf(t, step.line)...)
			if s = got.store; got.lines[len(got.lines)-1].Kind != lnOk {
				t.Fatalf("%s is refused", step.line)
			}
		}
		if step.copy == "" {
			continue
		}
		took, lines := wantCaughtUp(t, s, copies[step.copy])
		if text := textOfLines(t, lines); text != step.want {
			t.Fatalf("behind %q the copy %s is told %q; want %q", step.line, cacheTold(copies[step.copy]), text, step.want)
		}
		copies[step.copy] = took
		// Who begins from nothing comes to the same.
		if fresh, _ := wantCaughtUp(t, s, impl.Cache{Box: step.copy}); took.Valid > 0 && step.want != "no 1" && !sameCache(fresh, took) {
			t.Fatalf("from nothing it is %s; else %s", cacheTold(fresh), cacheTold(took))
		}
	}
}

// earlierCache is what a copy of the box may have been at a Mod: with what is gone since, and with later mails as they may have been, or without.
func earlierCache(b impl.Box, mod int, later bool) impl.Cache {
	c := impl.Cache{Box: b.Name, Valid: b.Valid, Mod: mod}
	for _, m := range b.Mails {
		switch {
		case m.Mod <= mod:
			c.Seens = append(c.Seens, seenAs(m.Uid, m.Flags, m.Mod))
		case later:
			c.Seens = append(c.Seens, seenAs(m.Uid, m.Flags^5, 1))
		}
	}
	for _, x := range b.Tombs {
		if x.Mod > mod && len(c.Seens) < mostMails {
			c.Seens = append(c.Seens, seenAs(x.Uid, 8, 1))
		}
	}
	slices.SortFunc(c.Seens, func(a impl.Seen, b impl.Seen) int { return a.Uid - b.Uid })
	return c
}

// From whatever Mod a copy is of, ahead of the box or behind it, it catches up; it is told all alone where it must be.
func TestCopiesCatchUpFromWhenever(t *testing.T) {
	count := 0
	for _, b := range changedBoxes(rightChanges()) {
		b.Valid = min(b.Valid, 9998)
		s := impl.Store{Boxes: []impl.Box{b}, Valid: 9999}
		wantCaughtUp(t, s, impl.Cache{Box: b.Name})
		wantCaughtUp(t, s, cacheOf(b))
		mods := append(uidRow(20, 1, 1), b.Horizon, b.Horizon+1, b.Mod-1, b.Mod, b.Mod+1, 99999, 100000)
		for _, x := range b.Tombs {
			mods = append(mods, x.Mod-1, x.Mod)
		}
		for _, mod := range mods {
			for _, later := range []bool{true, false} {
				c := earlierCache(b, mod, later)
				if !impl.CacheOk(c) {
					// There is none at the Mod 0, or beyond all.
					continue
				}
				if _, lines := wantCaughtUp(t, s, c); lines[0].All != (mod < b.Horizon || mod > b.Mod) {
					t.Fatalf("%s is told %s of %s", cacheTold(c), linesTold(lines), boxTold(b))
				}
				count++
			}
		}
		if _, lines := wantCaughtUp(t, s, impl.Cache{Box: b.Name, Valid: b.Valid}); lines[0].All != (b.Horizon > 0) {
			t.Fatalf("since 0 %s is told of %s", linesTold(lines), boxTold(b))
		}
	}
	if count < 1500 {
		t.Errorf("just %d copies caught up", count)
	}
	// Some box has the Mod 20: one that has counted further is told all, whatever it has seen.
	s := someStore()
	for _, c := range []impl.Cache{
		cacheAt(3, 21), cacheAt(3, 100000), cacheAt(3, 21, someCache().Seens...), cacheAt(3, 22, seenAs(2, 9, 18), seenAs(5, 8, 22), seenAs(12, 0, 21)), cacheAt(3, 100000, seenRow(30, 9970, 1, 100000)...),
		cacheAt(2, 20, someCache().Seens...), cacheAt(4, 20, someCache().Seens...), cacheAt(1, 5), cacheAt(9999, 20, seenAs(9999, 0, 1)), cacheAt(9999, 100000), cacheAt(0, 20, someCache().Seens...), cacheAt(0, 100000), cacheAt(0, 0),
		cacheAt(3, 4, seenAs(3, 0, 4), seenAs(10, 0, 2)), cacheAt(3, 4), cacheAt(3, 0), cacheAt(3, 1, seenAs(1, 0, 1)),
	} {
		if _, lines := wantCaughtUp(t, s, c); !lines[0].All {
			t.Fatalf("%s is told %s", cacheTold(c), linesTold(lines))
		}
	}
	if _, lines := wantCaughtUp(t, s, cacheAt(3, 5, seenAs(1, 0, 1), seenAs(3, 0, 4), seenAs(6, 1, 5), seenAs(11, 8, 2))); textOfLines(t, lines) != "* valid 3 modseq 20; * 5 exists; * vanished 1,4,6:7,11; "+mailLines(5) {
		t.Errorf("since the Horizon there is told %s", linesTold(lines))
	}
	for _, name := range []string{"none", "a", "zzzzzzzz"} {
		c := someCache()
		c.Box = name
		if got, lines := catchUp(t, s, c); !sameCache(got, c) || textOfLines(t, lines) != "no 1" {
			t.Errorf("of no box is told %s", linesTold(lines))
		}
	}
}

// As much as there may be is told, also of one box that has as much as that.
func TestCopiesCatchUpAtTheLimits(t *testing.T) {
	b := impl.Box{Name: "inbox", Valid: 9998, Next: 9999, Mod: 100000}
	old := cacheAt(9998, 1)
	for i := range mostTombs {
		b.Tombs = append(b.Tombs, tomb(2*i+1, i+2))
	}
	for i := range mostMails {
		b.Mails = append(b.Mails, mail(2*i+2, i, 99971+i, "x"))
		old.Seens = append(old.Seens, seenAs(2*i+1, 31, 1))
	}
	s := impl.Store{Boxes: []impl.Box{b}, Valid: 9999}
	// All that the copy has seen is gone: on the way there are none, or more than may be.
	took, lines := wantCaughtUp(t, s, old)
	if lines[0].All || len(lines[2].Set) != 40 || len(lines) != 34 || took.Mod != 100000 || len(took.Seens) != 30 {
		t.Errorf("the copy %s is told %s", cacheTold(took), linesTold(lines))
	}
	news := slices.Clone(lines)
	slices.Reverse(news)
	wantCacheTaken(t, old, news, took)
	full := boxOf(100000, uidRow(30, 9969, 1)...)
	full.Valid = 1
	wantCaughtUp(t, impl.Store{Boxes: []impl.Box{full}, Valid: 2}, impl.Cache{Box: "inbox"})
	wantCaughtUp(t, impl.Store{Boxes: []impl.Box{full}, Valid: 2}, cacheAt(1, 99999))
	wantCaughtUp(t, impl.Store{Boxes: []impl.Box{full}, Valid: 2}, cacheAt(1, 99999, seenRow(30, 9969, 1, 99999)...))
	empty := boxOf(100000)
	wantCaughtUp(t, impl.Store{Boxes: []impl.Box{empty}, Valid: 9999}, cacheAt(3, 99999))
	wantCaughtUp(t, impl.Store{Boxes: []impl.Box{empty}, Valid: 9999}, cacheAt(3, 100000))
	wantCaughtUp(t, impl.Store{Boxes: []impl.Box{empty}, Valid: 9999}, cacheAt(2, 100000, seenRow(30, 1, 1, 100000)...))
}

// A store that is not right tells no copy anything.
func TestCopiesOfWrongStores(t *testing.T) {
	for _, s := range someWrongStores() {
		for _, c := range []impl.Cache{someCache(), {Box: "inbox"}, {Box: "done", Valid: 5, Mod: 3}} {
			if got, lines := catchUp(t, s, c); !sameCache(got, c) || textOfLines(t, lines) != "no 4" {
				t.Fatalf("of %s is told %s", storeTold(s), linesTold(lines))
			}
		}
	}
}

// copyLife is a life of a store, and the copies of its boxes as they were, one of each Valid and Mod.
type copyLife struct {
	storeLife
	was    map[boxThen]impl.Cache
	kept   []impl.Cache
	counts map[string]int
}

// step does something to the store, and asks that a count tells all that a copy is of: no box is another one at the same.
func (l *copyLife) step() {
	l.t.Helper()
	l.storeLife.step()
	if b, there := plainBoxAt(l.store, l.name()); there && l.r.Intn(15) == 0 {
		l.store, _ = impl.Apply(l.store, impl.Edit{Kind: edForget, Box: b.Name, Since: max(0, b.Mod-l.r.Intn(60))})
	}
	for _, b := range l.store.Boxes {
		then := boxThen{b.Name, b.Valid, b.Mod}
		c, there := l.was[then]
		if there && !impl.CacheSame(c, b) {
			l.t.Fatalf("the copy %s is not that of %s", cacheTold(c), boxTold(b))
		}
		if !there {
			l.was[then] = cacheOf(ownBox(b))
			l.kept = append(l.kept, l.was[then])
		}
	}
}

// late has some copies of what was, and those from nothing, catch up.
func (l *copyLife) late() {
	l.t.Helper()
	for _, c := range l.kept {
		if l.r.Intn(4) > 0 {
			continue
		}
		took, lines := wantCaughtUp(l.t, l.store, c)
		b, there := plainBoxAt(l.store, c.Box)
		switch {
		case !there:
			l.counts["no box"]++
		case b.Valid != c.Valid:
			l.counts["made anew"]++
		case lines[0].All:
			l.counts["all"]++
		case lines[2].Kind == lnVanished:
			l.counts["vanished"]++
		default:
			l.counts["changed"]++
		}
		if len(took.Seens) == mostMails {
			l.counts["full"]++
		}
		if there && lines[0].All == (b.Valid == c.Valid && c.Mod >= b.Horizon) {
			l.t.Fatalf("%s is told %s of %s", cacheTold(c), linesTold(lines), boxTold(b))
		}
		wantCaughtUp(l.t, l.store, impl.Cache{Box: c.Box})
	}
}

// In drawn lives each copy catches up, from whenever it was, by way of whatever it was in between.
func TestDrawnCopiesCatchUp(t *testing.T) {
	counts := map[string]int{}
	for seed := range 12 {
		l := &copyLife{storeLife{t: t, r: rand.New(rand.NewSource(int64(1750 + seed))), store: impl.StoreNew(), given: map[int]bool{1: true}, codes: map[string]int{}}, map[boxThen]impl.Cache{}, nil, counts}
		if seed%3 == 2 {
			l.store.Valid, l.store.Boxes[0].Mod, l.store.Boxes[0].Next, l.store.Boxes[0].Horizon = 9960, 99900, 9900, 99890
		}
		copies := []impl.Cache{{Box: "inbox"}, {Box: "work"}, {Box: "done"}, {Box: "inbox"}, {Box: "work"}, {Box: "a"}}
		for i := range 600 {
			l.step()
			at := l.r.Intn(len(copies) * 3)
			if at < len(copies) {
				copies[at], _ = wantCaughtUp(t, l.store, copies[at])
			}
			if i%40 == 39 {
				l.late()
			}
		}
	}
	for what, least := range map[string]int{"no box": 100, "made anew": 100, "all": 100, "vanished": 100, "changed": 100, "full": 10} {
		if counts[what] < least {
			t.Errorf("just %d copies were told of %s", counts[what], what)
		}
	}
}

// Several that take the same at once don't meet, and nobody is left behind who tells.
func TestCopiesTakeAtOnce(t *testing.T) {
	before := runtime.NumGoroutine()
	c, lines := someCache(), append(fetchRow(400, 1, 1, 20), linesOf(t, "* valid 3 modseq 21; * vanished 30:9999")...)
	wrong := append(slices.Clone(lines), impl.Line{})
	want := plainCacheTake(c, lines)
	if len(want.Seens) != 29 {
		t.Fatalf("taken is %s", cacheTold(want))
	}
	answers := make([][3]impl.Cache, 8)
	var all sync.WaitGroup
	for i := range answers {
		all.Go(func() {
			for range 20 {
				answers[i] = [3]impl.Cache{impl.CacheTake(c, lines), impl.CacheTake(c, wrong), impl.CacheTake(c, lines[:400])}
			}
		})
	}
	all.Wait()
	for _, got := range answers {
		if !sameCache(got[0], want) || !sameCache(got[1], c) || !sameCache(got[2], c) {
			t.Fatalf("at once there is %s, %s and %s", cacheTold(got[0]), cacheTold(got[1]), cacheTold(got[2]))
		}
	}
	for range 100000 {
		if runtime.NumGoroutine() <= before {
			return
		}
		runtime.Gosched()
	}
	t.Errorf("there are %d goroutines; there were %d", runtime.NumGoroutine(), before)
}

func spareCache(c impl.Cache) impl.Cache {
	c.Box = strings.Clone(c.Box)
	c.Seens = spareSeens(c.Seens)
	return c
}

// spareLines are the lines, with others in the room behind them and behind their sets.
func spareLines(lines []impl.Line) []impl.Line {
	var own []impl.Line
	for _, x := range append(slices.Clone(lines), someLines()...) {
		own = append(own, spareLine(x))
	}
	return own[:len(lines)]
}

func memoryCaches() []impl.Cache {
	return []impl.Cache{
		{}, {Box: "inbox"}, someCache(), cacheAt(3, 900), cacheAt(3, 900, someSeens(5)...), cacheAt(3, 900, someSeens(30)...), cacheAt(3, 900, someSeens(31)...), cacheAt(0, 900, someSeens(2)...), cacheAt(9999, 1, someSeens(3)...), cacheAt(3, 20, seenRow(29, 1, 1, 5)...),
	}
}

func memoryNews(t *testing.T) [][]impl.Line {
	t.Helper()
	list := [][]impl.Line{nil, {}, {{}}, fetchRow(31, 1, 1, 1), fetchRow(5, 3, 3, 9), {setLine(lnVanished, span(5, 2))}, someLines()}
	for _, texts := range []string{
		"ok", "* vanished 1:9999", "* vanished 2:3,5,8:20", "* vanished 1", "* valid 3 modseq 900", "* valid 3 modseq 900 all", "* valid 4 modseq 2", "* 1 fetch (uid 5 flags () modseq 7)", "* 1 fetch (uid 1 flags () modseq 7)",
		"* 1 fetch (uid 9999 flags () modseq 7)", "* valid 3 modseq 950; * vanished 2,8; * 1 fetch (uid 4 flags (seen) modseq 3); * 2 fetch (uid 5 flags (seen) modseq 950); ok",
	} {
		list = append(list, linesOf(t, texts))
	}
	return list
}

func TestCopiesAnswerNewMemory(t *testing.T) {
	for _, plain := range memoryCaches() {
		c := spareCache(plain)
		one, two := impl.CacheWords(c), impl.CacheWords(c)
		if shares(one, two) {
			t.Errorf("two answers of CacheWords share their words")
		}
		if len(one) > 0 {
			wantNewTexts(t, "CacheWords", one[1:2], []string{c.Box, two[1]})
		}
		for _, news := range memoryNews(t) {
			lines := spareLines(news)
			first, second := impl.CacheTake(c, lines), impl.CacheTake(c, lines)
			if shares(first.Seens, c.Seens) || shares(second.Seens, c.Seens) || shares(first.Seens, second.Seens) {
				t.Fatalf("CacheTake(%s, %s): an answer shares memory", cacheTold(c), linesTold(lines))
			}
			wantNewTexts(t, "CacheTake", []string{first.Box}, []string{c.Box, second.Box})
		}
	}
}

// setRooms has all that stands in the sets of the lines, and in the room behind these and behind the lines.
func setRooms(lines []impl.Line) [][]impl.Range {
	var rooms [][]impl.Range
	for _, x := range lines[:cap(lines)] {
		rooms = append(rooms, slices.Clone(x.Set[:cap(x.Set)]))
	}
	return rooms
}

func TestCopiesLeaveArgumentsAlone(t *testing.T) {
	for _, plain := range memoryCaches() {
		c := spareCache(plain)
		was := slices.Clone(c.Seens[:cap(c.Seens)])
		for _, news := range memoryNews(t) {
			lines := spareLines(news)
			whole, rooms := slices.Clone(lines[:cap(lines)]), setRooms(lines)
			impl.CacheOk(c)
			impl.CacheWords(c)
			impl.CacheTake(c, lines)
			if !slices.EqualFunc(lines[:cap(lines)], whole, sameLine) || !slices.EqualFunc(setRooms(lines), rooms, slices.Equal) {
				t.Fatalf("the lines %s are changed, or the room behind them", linesTold(news))
			}
		}
		for _, b := range append(memoryBoxes(), graveyard(30, 40)) {
			box := spareBox(b)
			mails, tombs := slices.Clone(box.Mails[:cap(box.Mails)]), slices.Clone(box.Tombs[:cap(box.Tombs)])
			impl.CacheSame(c, box)
			impl.CacheSame(cacheOf(b), box)
			if !slices.Equal(box.Mails[:cap(box.Mails)], mails) || !slices.Equal(box.Tombs[:cap(box.Tombs)], tombs) {
				t.Fatalf("the box %s is changed, or the room behind its lists", boxTold(b))
			}
		}
		if !slices.Equal(c.Seens[:cap(c.Seens)], was) {
			t.Fatalf("the copy %s is changed, or the room behind its Seens", cacheTold(plain))
		}
	}
}

// An answer stays what it was, whatever becomes of the arguments and of other answers; what lies in the room behind is never seen.
func TestCopiesAnswersStand(t *testing.T) {
	for _, plain := range memoryCaches() {
		for _, news := range memoryNews(t) {
			c, lines := spareCache(plain), spareLines(news)
			words, others := impl.CacheWords(c), impl.CacheWords(c)
			got, other := impl.CacheTake(c, lines), impl.CacheTake(c, lines)
			again := impl.CacheTake(got, lines)
			clear(others[:cap(others)])
			clear(other.Seens[:cap(other.Seens)])
			clear(again.Seens[:cap(again.Seens)])
			clear(c.Seens[:cap(c.Seens)])
			for i := range lines {
				clear(lines[i].Set[:cap(lines[i].Set)])
			}
			clear(lines[:cap(lines)])
			if want := plainCacheTake(plain, news); !sameCache(got, want) || !slices.Equal(words, plainCacheWords(plain)) {
				t.Fatalf("CacheTake(%s, %s) became %s", cacheTold(plain), linesTold(news), cacheTold(got))
			}
		}
	}
}
