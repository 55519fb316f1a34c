package tests

import (
	"math"
	"math/rand"
	"regexp"
	"slices"
	"strconv"
	"strings"
	"testing"
	"unsafe"

	"loop.example/g00247/impl"
)

// plainNumbers are the numbers of a set, each in its place.
type plainNumbers [impl.MaxUid + 1]bool

func span(lo int, hi int) impl.Range { return impl.Range{Lo: lo, Hi: hi} }

func setOf(ranges ...impl.Range) []impl.Range { return ranges }

func numbersOf(s []impl.Range) *plainNumbers {
	var in plainNumbers
	for _, r := range s {
		for n := r.Lo; n <= r.Hi; n++ {
			in[n] = true
		}
	}
	return &in
}

// plainSet is the set of the numbers, found by going through all of them.
func plainSet(in *plainNumbers) []impl.Range {
	var s []impl.Range
	for n := 1; n <= impl.MaxUid; n++ {
		if !in[n] {
			continue
		}
		if in[n-1] {
			s[len(s)-1].Hi = n
		} else {
			s = append(s, span(n, n))
		}
	}
	return s
}

// plainSetOk is the document's rule, told of each pair and each range alone.
func plainSetOk(s []impl.Range) bool {
	for i, r := range s {
		if i >= impl.MaxRanges || r.Lo < 1 || r.Hi < r.Lo || r.Hi > impl.MaxUid {
			return false
		}
		if i > 0 && !(r.Lo-s[i-1].Hi > 1) {
			return false
		}
	}
	return true
}

// plainChange is what SetAdd (there is true) and SetDrop (there is false) answer.
func plainChange(s []impl.Range, lo int, hi int, there bool) ([]impl.Range, bool) {
	if !plainSetOk(s) || lo > hi || lo < 1 || lo > impl.MaxUid || hi > impl.MaxUid {
		return s, false
	}
	in := numbersOf(s)
	for n := lo; n <= hi; n++ {
		in[n] = there
	}
	if got := plainSet(in); len(got) <= impl.MaxRanges {
		return got, true
	}
	return s, false
}

// plainPair is what SetJoin (with 1 as enough) and SetMeet (with 2) answer.
func plainPair(a []impl.Range, b []impl.Range, enough int) ([]impl.Range, bool) {
	if !plainSetOk(a) || !plainSetOk(b) {
		return nil, false
	}
	var in plainNumbers
	one, other := numbersOf(a), numbersOf(b)
	for n := range in {
		in[n] = one[n] && other[n] || enough == 1 && (one[n] || other[n])
	}
	if got := plainSet(&in); len(got) <= impl.MaxRanges {
		return got, true
	}
	return nil, false
}

func plainSize(s []impl.Range) int {
	size := 0
	if plainSetOk(s) {
		for _, there := range numbersOf(s) {
			if there {
				size++
			}
		}
	}
	return size
}

var plainPart = regexp.MustCompile(`^([0-9]{1,4}|\*)(:([0-9]{1,4}|\*))?$`)

// plainReadSet is the document's rule for a text.
func plainReadSet(text string, last int) ([]impl.Range, bool) {
	var in plainNumbers
	if last < 1 || last > impl.MaxUid {
		return nil, false
	}
	for _, part := range strings.Split(text, ",") {
		if !plainPart.MatchString(part) {
			return nil, false
		}
		var ends []int
		for _, word := range strings.Split(part, ":") {
			n := last
			if word != "*" {
				n, _ = strconv.Atoi(word)
			}
			ends = append(ends, n)
		}
		slices.Sort(ends)
		if ends[0] == 0 {
			return nil, false
		}
		for n := ends[0]; n <= ends[len(ends)-1]; n++ {
			in[n] = true
		}
	}
	if got := plainSet(&in); len(got) <= impl.MaxRanges {
		return got, true
	}
	return nil, false
}

// sparse is a set of count ranges: size numbers each, the first of them at from, with gap numbers between.
func sparse(count int, from int, size int, gap int) []impl.Range {
	var s []impl.Range
	for i := range count {
		lo := from + i*(size+gap)
		s = append(s, span(lo, lo+size-1))
	}
	return s
}

// subset is the set of those of count numbers from from on whose bit stands in bits.
func subset(bits int, count int, from int) []impl.Range {
	var in plainNumbers
	for i := range count {
		if bits>>i&1 == 1 {
			in[from+i] = true
		}
	}
	return plainSet(&in)
}

// rightSets are sets at the limits and within them.
func rightSets() [][]impl.Range {
	const top = impl.MaxUid
	return [][]impl.Range{
		nil,
		{},
		setOf(span(1, 1)),
		setOf(span(top, top)),
		setOf(span(1, top)),
		setOf(span(1, top-1)),
		setOf(span(2, top)),
		setOf(span(1, 1), span(3, 3)),
		setOf(span(1, 1), span(top, top)),
		setOf(span(1, 3), span(5, 5), span(7, 9)),
		setOf(span(1, 4998), span(5000, top)),
		setOf(span(top-2, top-2), span(top, top)),
		setOf(span(10, 20), span(30, 40), span(50, 60)),
		setOf(span(9, 10), span(99, 100), span(999, 1000)),
		sparse(impl.MaxRanges-1, 1, 1, 1),
		sparse(impl.MaxRanges, 1, 1, 1),
		sparse(impl.MaxRanges, 2, 1, 1),
		sparse(impl.MaxRanges, 5, 3, 2),
		sparse(impl.MaxRanges-1, 5, 3, 2),
		sparse(impl.MaxRanges, top-2*impl.MaxRanges+2, 1, 1),
		sparse(impl.MaxRanges, top+2-240*(impl.MaxRanges), 239, 1),
	}
}

// wrongSets are sets that are not right, each for one cause.
func wrongSets() [][]impl.Range {
	const top = impl.MaxUid
	return [][]impl.Range{
		sparse(impl.MaxRanges+1, 1, 1, 1),
		sparse(impl.MaxRanges+1, 10, 3, 4),
		sparse(3*impl.MaxRanges, 1, 1, 1),
		setOf(span(0, 0)),
		setOf(span(0, 1)),
		setOf(span(0, top)),
		setOf(span(-1, -1)),
		setOf(span(-1, 5)),
		setOf(span(2, 1)),
		setOf(span(1, 0)),
		setOf(span(top+1, top+1)),
		setOf(span(top, top+1)),
		setOf(span(1, top+1)),
		setOf(span(top, top-1)),
		setOf(span(math.MinInt, math.MinInt)),
		setOf(span(math.MinInt, 5)),
		setOf(span(math.MaxInt, math.MaxInt)),
		setOf(span(5, math.MaxInt)),
		setOf(span(math.MaxInt, 5)),
		setOf(span(5, math.MinInt)),
		setOf(span(1, math.MaxInt), span(5, 5)),
		setOf(span(5, 5), span(math.MinInt, math.MaxInt)),
		setOf(span(1, 1), span(2, 2)),
		setOf(span(1, 5), span(6, 9)),
		setOf(span(1, 5), span(5, 9)),
		setOf(span(1, 5), span(3, 9)),
		setOf(span(1, 9), span(3, 5)),
		setOf(span(3, 5), span(3, 5)),
		setOf(span(5, 5), span(3, 3)),
		setOf(span(7, 9), span(1, 3)),
		setOf(span(1, 1), span(9, 9), span(5, 5)),
		setOf(span(1, 1), span(5, 4), span(9, 9)),
		setOf(span(1, 1), span(5, 6), span(7, 9), span(20, 20)),
		setOf(span(1, 3), impl.Range{}, span(7, 9)),
		setOf(impl.Range{}),
		setOf(impl.Range{}, span(2, 3)),
		setOf(span(top-1, top-1), span(top, top)),
	}
}

func allSets() [][]impl.Range { return append(rightSets(), wrongSets()...) }

func sameAnswer(got []impl.Range, ok bool, want []impl.Range, right bool) bool {
	return ok == right && slices.Equal(got, want)
}

// wantChanged holds SetAdd and SetDrop against the document's rule.
func wantChanged(t *testing.T, s []impl.Range, lo int, hi int) {
	t.Helper()
	want, right := plainChange(s, lo, hi, true)
	if got, ok := impl.SetAdd(s, lo, hi); !sameAnswer(got, ok, want, right) {
		t.Errorf("SetAdd(%v, %d, %d) = %v, %v; want %v, %v", s, lo, hi, got, ok, want, right)
	}
	want, right = plainChange(s, lo, hi, false)
	if got, ok := impl.SetDrop(s, lo, hi); !sameAnswer(got, ok, want, right) {
		t.Errorf("SetDrop(%v, %d, %d) = %v, %v; want %v, %v", s, lo, hi, got, ok, want, right)
	}
}

// wantPaired holds SetJoin and SetMeet against the document's rule.
func wantPaired(t *testing.T, a []impl.Range, b []impl.Range) {
	t.Helper()
	want, right := plainPair(a, b, 1)
	if got, ok := impl.SetJoin(a, b); !sameAnswer(got, ok, want, right) {
		t.Errorf("SetJoin(%v, %v) = %v, %v; want %v, %v", a, b, got, ok, want, right)
	}
	want, right = plainPair(a, b, 2)
	if got, ok := impl.SetMeet(a, b); !sameAnswer(got, ok, want, right) {
		t.Errorf("SetMeet(%v, %v) = %v, %v; want %v, %v", a, b, got, ok, want, right)
	}
}

func wantAdded(t *testing.T, s []impl.Range, lo int, hi int, want ...impl.Range) {
	t.Helper()
	if got, ok := impl.SetAdd(s, lo, hi); !sameAnswer(got, ok, want, true) {
		t.Errorf("SetAdd(%v, %d, %d) = %v, %v; want %v", s, lo, hi, got, ok, want)
	}
	wantChanged(t, s, lo, hi)
}

func wantDropped(t *testing.T, s []impl.Range, lo int, hi int, want ...impl.Range) {
	t.Helper()
	if got, ok := impl.SetDrop(s, lo, hi); !sameAnswer(got, ok, want, true) {
		t.Errorf("SetDrop(%v, %d, %d) = %v, %v; want %v", s, lo, hi, got, ok, want)
	}
	wantChanged(t, s, lo, hi)
}

func wantNotAdded(t *testing.T, s []impl.Range, lo int, hi int) {
	t.Helper()
	if got, ok := impl.SetAdd(s, lo, hi); !sameAnswer(got, ok, s, false) {
		t.Errorf("SetAdd(%v, %d, %d) = %v, %v; want the set as it is, false", s, lo, hi, got, ok)
	}
}

func wantNotDropped(t *testing.T, s []impl.Range, lo int, hi int) {
	t.Helper()
	if got, ok := impl.SetDrop(s, lo, hi); !sameAnswer(got, ok, s, false) {
		t.Errorf("SetDrop(%v, %d, %d) = %v, %v; want the set as it is, false", s, lo, hi, got, ok)
	}
}

func wantSet(t *testing.T, text string, last int, want ...impl.Range) {
	t.Helper()
	if got, ok := impl.ReadSet(text, last); !sameAnswer(got, ok, want, true) {
		t.Errorf("ReadSet(%.60q, %d) = %v, %v; want %v", text, last, got, ok, want)
	}
}

func wantNoSet(t *testing.T, text string, last int) {
	t.Helper()
	if got, ok := impl.ReadSet(text, last); ok || len(got) != 0 {
		t.Errorf("ReadSet(%.60q, %d) = %v, %v; want nothing, false", text, last, got, ok)
	}
}

func TestSetConstants(t *testing.T) {
	if impl.MaxUid != 9999 || impl.MaxRanges != 40 {
		t.Error("a limit is not the document's")
	}
}

func TestSetOk(t *testing.T) {
	for _, s := range rightSets() {
		if !impl.SetOk(s) {
			t.Errorf("SetOk(%v) is false", s)
		}
	}
	for _, s := range wrongSets() {
		if impl.SetOk(s) {
			t.Errorf("SetOk(%v) is true", s)
		}
	}
}

func TestSetOkOfEveryShortSet(t *testing.T) {
	for _, base := range []int{0, impl.MaxUid - 4} {
		for i := range 6 * 6 * 6 * 6 {
			a, b, c, d := base+i%6, base+i/6%6, base+i/36%6, base+i/216
			for _, s := range [][]impl.Range{setOf(span(a, b)), setOf(span(a, b), span(c, d))} {
				if got := impl.SetOk(s); got != plainSetOk(s) {
					t.Errorf("SetOk(%v) is %v", s, got)
				}
			}
		}
	}
}

func TestSetHasEveryNumber(t *testing.T) {
	for _, s := range rightSets() {
		in := numbersOf(s)
		for n := -3; n <= impl.MaxUid+3; n++ {
			want := n >= 1 && n <= impl.MaxUid && in[n]
			if got := impl.SetHas(s, n); got != want {
				t.Errorf("SetHas(%v, %d) is %v", s, n, got)
			}
		}
		for _, n := range []int{math.MinInt, math.MaxInt, -impl.MaxUid} {
			if impl.SetHas(s, n) {
				t.Errorf("SetHas(%v, %d) is true", s, n)
			}
		}
	}
}

// No rule says that the set must be right for SetHas: it tells whether n is in one of the ranges.
func TestSetHasOfWrongSets(t *testing.T) {
	for _, s := range wrongSets() {
		for _, n := range append(someNumbers(), math.MinInt, math.MinInt+1, -2, -1, 0, 1, 2, 3, 4, 5, 6, 7, 8, 9, 20, 80, 81, 82, 240, 290, 9998, 9999, 10000, 10001, math.MaxInt-1, math.MaxInt) {
			want := slices.ContainsFunc(s, func(r impl.Range) bool { return r.Lo <= n && n <= r.Hi })
			if got := impl.SetHas(s, n); got != want {
				t.Errorf("SetHas(%v, %d) is %v", s, n, got)
			}
		}
	}
}

func TestSetAddForms(t *testing.T) {
	s := setOf(span(10, 20), span(30, 40), span(50, 60))
	wantAdded(t, nil, 1, 1, span(1, 1))
	wantAdded(t, nil, impl.MaxUid, impl.MaxUid, span(impl.MaxUid, impl.MaxUid))
	wantAdded(t, nil, 1, impl.MaxUid, span(1, impl.MaxUid))
	wantAdded(t, s, 1, 1, span(1, 1), span(10, 20), span(30, 40), span(50, 60))
	wantAdded(t, s, 1, 8, span(1, 8), span(10, 20), span(30, 40), span(50, 60))
	wantAdded(t, s, 1, 9, span(1, 20), span(30, 40), span(50, 60))
	wantAdded(t, s, 1, 10, span(1, 20), span(30, 40), span(50, 60))
	wantAdded(t, s, 12, 15, s...)
	wantAdded(t, s, 10, 20, s...)
	wantAdded(t, s, 15, 15, s...)
	wantAdded(t, s, 22, 28, span(10, 20), span(22, 28), span(30, 40), span(50, 60))
	wantAdded(t, s, 21, 28, span(10, 28), span(30, 40), span(50, 60))
	wantAdded(t, s, 22, 29, span(10, 20), span(22, 40), span(50, 60))
	wantAdded(t, s, 21, 29, span(10, 40), span(50, 60))
	wantAdded(t, s, 25, 25, span(10, 20), span(25, 25), span(30, 40), span(50, 60))
	wantAdded(t, s, 15, 55, span(10, 60))
	wantAdded(t, s, 5, 70, span(5, 70))
	wantAdded(t, s, 61, 61, span(10, 20), span(30, 40), span(50, 61))
	wantAdded(t, s, 62, 62, span(10, 20), span(30, 40), span(50, 60), span(62, 62))
	wantAdded(t, s, 62, impl.MaxUid, span(10, 20), span(30, 40), span(50, 60), span(62, impl.MaxUid))
	wantAdded(t, setOf(span(1, 3), span(5, 7)), 4, 4, span(1, 7))
}

func TestSetDropForms(t *testing.T) {
	s := setOf(span(10, 20), span(30, 40), span(50, 60))
	wantDropped(t, nil, 1, 1)
	wantDropped(t, nil, 1, impl.MaxUid)
	wantDropped(t, setOf(span(1, impl.MaxUid)), 1, impl.MaxUid)
	wantDropped(t, setOf(span(1, impl.MaxUid)), 1, 1, span(2, impl.MaxUid))
	wantDropped(t, setOf(span(1, impl.MaxUid)), impl.MaxUid, impl.MaxUid, span(1, impl.MaxUid-1))
	wantDropped(t, setOf(span(1, impl.MaxUid)), 5000, 5000, span(1, 4999), span(5001, impl.MaxUid))
	wantDropped(t, s, 1, 9, s...)
	wantDropped(t, s, 61, impl.MaxUid, s...)
	wantDropped(t, s, 21, 29, s...)
	wantDropped(t, s, 1, 10, span(11, 20), span(30, 40), span(50, 60))
	wantDropped(t, s, 20, 30, span(10, 19), span(31, 40), span(50, 60))
	wantDropped(t, s, 12, 18, span(10, 11), span(19, 20), span(30, 40), span(50, 60))
	wantDropped(t, s, 11, 19, span(10, 10), span(20, 20), span(30, 40), span(50, 60))
	wantDropped(t, s, 10, 20, span(30, 40), span(50, 60))
	wantDropped(t, s, 10, 19, span(20, 20), span(30, 40), span(50, 60))
	wantDropped(t, s, 11, 20, span(10, 10), span(30, 40), span(50, 60))
	wantDropped(t, s, 15, 55, span(10, 14), span(56, 60))
	wantDropped(t, s, 30, 40, span(10, 20), span(50, 60))
	wantDropped(t, s, 60, 60, span(10, 20), span(30, 40), span(50, 59))
	wantDropped(t, s, 5, 70)
}

// Every set of a few numbers, at either end of what there may be, with every range there.
func TestSetChangesOfEveryShortSet(t *testing.T) {
	const count = 7
	for _, from := range []int{1, 3, impl.MaxUid - count + 1} {
		for bits := range 1 << count {
			s := subset(bits, count, from)
			for lo := from - 2; lo <= from+count+1; lo++ {
				for hi := lo - 1; hi <= from+count+1; hi++ {
					checkShortChange(t, s, lo, hi)
				}
			}
		}
	}
}

// checkShortChange asks of each number whether it is there that should be.
func checkShortChange(t *testing.T, s []impl.Range, lo int, hi int) {
	t.Helper()
	more, ok := impl.SetAdd(s, lo, hi)
	less, well := impl.SetDrop(s, lo, hi)
	right := lo >= 1 && lo <= hi && hi <= impl.MaxUid
	if ok != right || well != right || !impl.SetOk(more) || !impl.SetOk(less) {
		t.Fatalf("SetAdd(%v, %d, %d) = %v, %v; SetDrop %v, %v", s, lo, hi, more, ok, less, well)
	}
	for n := lo - 4; n <= hi+4; n++ {
		had, within := impl.SetHas(s, n), right && n >= lo && n <= hi
		if impl.SetHas(more, n) != (had || within) || impl.SetHas(less, n) != (had && !within) {
			t.Errorf("SetAdd(%v, %d, %d) = %v, SetDrop %v: not so of %d", s, lo, hi, more, less, n)
		}
	}
	within := 0
	for n := lo; n <= hi; n++ {
		if impl.SetHas(s, n) {
			within++
		}
	}
	if right && (impl.SetSize(more) != impl.SetSize(s)-within+hi-lo+1 || impl.SetSize(less) != impl.SetSize(s)-within) {
		t.Errorf("SetAdd(%v, %d, %d) = %v, SetDrop %v: not so many", s, lo, hi, more, less)
	}
}

func TestSetChangesRefuse(t *testing.T) {
	for _, s := range rightSets() {
		for _, r := range []impl.Range{span(0, 0), span(0, 5), span(-1, 5), span(-5, -1), span(2, 1), span(1, 0), span(impl.MaxUid, impl.MaxUid-1),
			span(impl.MaxUid, impl.MaxUid+1), span(impl.MaxUid+1, impl.MaxUid+1), span(1, impl.MaxUid+1), span(0, impl.MaxUid+1), span(impl.MaxUid+1, 1),
			span(math.MinInt, math.MaxInt), span(math.MaxInt, math.MinInt), span(math.MinInt, math.MinInt), span(math.MaxInt, math.MaxInt), span(5, math.MaxInt), span(math.MinInt, 5)} {
			wantNotAdded(t, s, r.Lo, r.Hi)
			wantNotDropped(t, s, r.Lo, r.Hi)
		}
	}
}

func TestSetChangesOfWrongSets(t *testing.T) {
	for _, s := range wrongSets() {
		for _, r := range []impl.Range{span(1, 1), span(2, 2), span(4, 6), span(1, impl.MaxUid), span(impl.MaxUid, impl.MaxUid), span(0, 1), span(3, 2), span(5, impl.MaxUid+1)} {
			wantNotAdded(t, s, r.Lo, r.Hi)
			wantNotDropped(t, s, r.Lo, r.Hi)
		}
	}
}

func TestSetAddAtTheMostRanges(t *testing.T) {
	most := sparse(impl.MaxRanges, 10, 1, 2)
	end := most[impl.MaxRanges-1].Hi
	for _, n := range []int{1, 8, end + 2, impl.MaxUid} {
		wantNotAdded(t, most, n, n)
		wantAdded(t, most[1:], n, n, setOfJoined(most[1:], n)...)
	}
	wantNotAdded(t, sparse(impl.MaxRanges, 10, 1, 3), 12, 12)
	wantNotAdded(t, sparse(impl.MaxRanges, 10, 1, 4), 12, 13)
	wantAdded(t, sparse(impl.MaxRanges, 10, 1, 3), 12, 13, setOfJoined(sparse(impl.MaxRanges, 10, 1, 3), 12, 13)...)
	wantAdded(t, most, 9, 9, setOfJoined(most, 9)...)
	wantAdded(t, most, 11, 11, setOfJoined(most, 11)...)
	wantAdded(t, most, 11, 12, setOfJoined(most, 11, 12)...)
	wantAdded(t, most, end+1, end+1, setOfJoined(most, end+1)...)
	wantAdded(t, most, 10, end, span(10, end))
	wantAdded(t, most, 1, impl.MaxUid, span(1, impl.MaxUid))
}

// setOfJoined is s with each of the numbers.
func setOfJoined(s []impl.Range, numbers ...int) []impl.Range {
	in := numbersOf(s)
	for _, n := range numbers {
		in[n] = true
	}
	return plainSet(in)
}

func TestSetDropAtTheMostRanges(t *testing.T) {
	most := sparse(impl.MaxRanges, 10, 3, 1)
	end := most[impl.MaxRanges-1].Hi
	for _, r := range most {
		wantNotDropped(t, most, r.Lo+1, r.Lo+1)
		wantDropped(t, most, r.Lo, r.Hi, slices.DeleteFunc(slices.Clone(most), func(x impl.Range) bool { return x == r })...)
		wantDropped(t, most, r.Hi+1, r.Hi+1, most...)
	}
	less := most[:impl.MaxRanges-1]
	wantDropped(t, less, 11, 11, append(setOf(span(10, 10), span(12, 12)), less[1:]...)...)
	wantDropped(t, most, 11, 15, append(setOf(span(10, 10), span(16, 16)), most[2:]...)...)
	wantDropped(t, most, 10, 11, append(setOf(span(12, 12)), most[1:]...)...)
	wantDropped(t, most, 1, 9, most...)
	wantDropped(t, most, end+1, impl.MaxUid, most...)
	wantDropped(t, most, 1, impl.MaxUid)
	wantDropped(t, most, 11, end, span(10, 10))
}

func TestSetChangesOfAllSets(t *testing.T) {
	ends := []int{1, 2, 3, 4, 5, 6, 9, 10, 25, 80, 81, 5000, impl.MaxUid - 1, impl.MaxUid}
	for _, s := range rightSets() {
		for i, lo := range ends {
			for _, hi := range ends[i:] {
				wantChanged(t, s, lo, hi)
			}
		}
	}
}

func TestSetPairForms(t *testing.T) {
	a, b := setOf(span(1, 5), span(10, 20), span(30, 30)), setOf(span(3, 12), span(18, 29), span(32, 40))
	join, ok := impl.SetJoin(a, b)
	if want := setOf(span(1, 30), span(32, 40)); !sameAnswer(join, ok, want, true) {
		t.Errorf("SetJoin(%v, %v) = %v, %v; want %v", a, b, join, ok, want)
	}
	meet, ok := impl.SetMeet(a, b)
	if want := setOf(span(3, 5), span(10, 12), span(18, 20)); !sameAnswer(meet, ok, want, true) {
		t.Errorf("SetMeet(%v, %v) = %v, %v; want %v", a, b, meet, ok, want)
	}
}

// Ranges of two sets between which two numbers lie, one, none, and which overlap.
func TestSetPairsOfRangesThatMeet(t *testing.T) {
	a := setOf(span(10, 20))
	for lo := 1; lo <= 25; lo++ {
		for hi := lo; hi <= 30; hi++ {
			wantPaired(t, a, setOf(span(lo, hi)))
			wantPaired(t, setOf(span(lo, hi)), a)
		}
	}
}

func TestSetPairsOfEveryShortSet(t *testing.T) {
	const count = 6
	for _, from := range []int{1, impl.MaxUid - count + 1} {
		for i := range 1 << count {
			a := subset(i, count, from)
			for j := range 1 << count {
				b := subset(j, count, from)
				join, ok := impl.SetJoin(a, b)
				meet, well := impl.SetMeet(a, b)
				if !sameAnswer(join, ok, subset(i|j, count, from), true) || !sameAnswer(meet, well, subset(i&j, count, from), true) {
					t.Errorf("SetJoin(%v, %v) = %v, %v; SetMeet %v, %v", a, b, join, ok, meet, well)
				}
			}
		}
	}
}

func TestSetPairsOfAllSets(t *testing.T) {
	for _, a := range rightSets() {
		for _, b := range rightSets() {
			wantPaired(t, a, b)
		}
	}
}

func TestSetPairsRefuseWrongSets(t *testing.T) {
	for _, wrong := range wrongSets() {
		for _, s := range allSets() {
			for _, pair := range [][2][]impl.Range{{wrong, s}, {s, wrong}} {
				if got, ok := impl.SetJoin(pair[0], pair[1]); ok || len(got) != 0 {
					t.Errorf("SetJoin(%v, %v) = %v, %v", pair[0], pair[1], got, ok)
				}
				if got, ok := impl.SetMeet(pair[0], pair[1]); ok || len(got) != 0 {
					t.Errorf("SetMeet(%v, %v) = %v, %v", pair[0], pair[1], got, ok)
				}
			}
		}
	}
}

func TestSetJoinAtTheMostRanges(t *testing.T) {
	most := sparse(impl.MaxRanges, 10, 1, 3)
	for _, c := range []struct {
		b    []impl.Range
		want bool
	}{
		{nil, true},
		{most, true},
		{setOf(span(11, 11)), true},
		{setOf(span(12, 12)), false},
		{setOf(span(11, 13)), true},
		{setOf(span(1, 1)), false},
		{setOf(span(1, 1), span(11, 13)), true},
		{setOf(span(1, 1), span(3, 3), span(11, 13)), false},
		{setOf(span(1, 1), span(3, 3), span(11, 17)), true},
		{setOf(span(impl.MaxUid, impl.MaxUid)), false},
		{sparse(impl.MaxRanges, 12, 1, 3), false},
		{sparse(impl.MaxRanges, 11, 3, 1), true},
		{sparse(impl.MaxRanges, 11, 1, 3), true},
	} {
		for _, pair := range [][2][]impl.Range{{most, c.b}, {c.b, most}} {
			if got, ok := impl.SetJoin(pair[0], pair[1]); ok != c.want || !ok && len(got) != 0 {
				t.Errorf("SetJoin(%v, %v) = %v, %v", pair[0], pair[1], got, ok)
			}
			wantPaired(t, pair[0], pair[1])
		}
	}
	half := impl.MaxRanges / 2
	low, high := sparse(half, 1, 1, 1), sparse(half, 500, 2, 2)
	if got, ok := impl.SetJoin(low, high); !sameAnswer(got, ok, append(slices.Clone(low), high...), true) {
		t.Errorf("SetJoin(%v, %v) = %v, %v", low, high, got, ok)
	}
	more := sparse(half+1, 500, 2, 2)
	if got, ok := impl.SetJoin(low, more); ok || len(got) != 0 {
		t.Errorf("SetJoin(%v, %v) = %v, %v", low, more, got, ok)
	}
}

// What two sets both have may be in more ranges than either has.
func TestSetMeetAtTheMostRanges(t *testing.T) {
	for count := range impl.MaxRanges {
		a := append(sparse(count, 1, 5, 1), span(6*count+1, 9000))
		for other := 1; other <= impl.MaxRanges; other++ {
			b := append(setOf(span(1, 1000)), sparse(other-1, 1002, 5, 1)...)
			meet, ok := impl.SetMeet(a, b)
			if want := count+other <= impl.MaxRanges; ok != want || want && len(meet) != count+other || !want && len(meet) != 0 {
				t.Fatalf("SetMeet(%v, %v) = %v, %v", a, b, meet, ok)
			}
			if count%8 == 0 || count+other-impl.MaxRanges < 2 {
				wantPaired(t, a, b)
			}
		}
	}
}

func TestSetSize(t *testing.T) {
	for _, s := range allSets() {
		if got := impl.SetSize(s); got != plainSize(s) {
			t.Errorf("SetSize(%v) is %d", s, got)
		}
	}
	if got := impl.SetSize(setOf(span(1, 3), span(5, 5), span(7, 9))); got != 7 {
		t.Errorf("SetSize is %d", got)
	}
	if got := impl.SetSize(setOf(span(1, impl.MaxUid))); got != 9999 {
		t.Errorf("SetSize of all is %d", got)
	}
}

func TestSetTextForms(t *testing.T) {
	for _, c := range []struct {
		s    []impl.Range
		want string
	}{
		{nil, ""},
		{setOf(span(1, 1)), "1"},
		{setOf(span(1, 2)), "1:2"},
		{setOf(span(1, 3), span(5, 5), span(7, 9)), "1:3,5,7:9"},
		{setOf(span(1, impl.MaxUid)), "1:9999"},
		{setOf(span(9, 10), span(99, 100), span(999, 1000), span(9999, 9999)), "9:10,99:100,999:1000,9999"},
	} {
		if got := impl.SetText(c.s); got != c.want {
			t.Errorf("SetText(%v) is %q; want %q", c.s, got, c.want)
		}
	}
	for _, s := range wrongSets() {
		if got := impl.SetText(s); got != "" {
			t.Errorf("SetText(%v) is %q", s, got)
		}
	}
}

func TestSetTextIsReadBack(t *testing.T) {
	for _, s := range rightSets() {
		if len(s) == 0 {
			continue
		}
		for _, last := range []int{1, 7, 5000, impl.MaxUid} {
			wantSet(t, impl.SetText(s), last, s...)
		}
	}
	for bits := 1; bits < 1<<8; bits++ {
		for _, from := range []int{1, 95, 996, impl.MaxUid - 7} {
			s := subset(bits, 8, from)
			wantSet(t, impl.SetText(s), 1, s...)
		}
	}
}

func TestSetTextOfEveryNumber(t *testing.T) {
	for n := 1; n <= impl.MaxUid; n++ {
		one := setOf(span(n, n))
		if got := impl.SetText(one); got != strconv.Itoa(n) {
			t.Errorf("SetText(%v) is %q", one, got)
		}
		wantSet(t, strconv.Itoa(n), 1, one...)
		wantSet(t, "*", n, one...)
	}
}

func TestReadSetForms(t *testing.T) {
	wantSet(t, "5,1:3,*:7", 9, span(1, 3), span(5, 5), span(7, 9))
	wantSet(t, "9:7", 1, span(7, 9))
	wantSet(t, "7:7", 1, span(7, 7))
	wantSet(t, "9,7,5", 1, span(5, 5), span(7, 7), span(9, 9))
	wantSet(t, "5,5,5", 1, span(5, 5))
	wantSet(t, "1:5,1:5", 1, span(1, 5))
	wantSet(t, "2,1", 1, span(1, 2))
	wantSet(t, "3,1,2", 1, span(1, 3))
	wantSet(t, "4:6,1:3", 1, span(1, 6))
	wantSet(t, "5:6,1:3", 1, span(1, 3), span(5, 6))
	wantSet(t, "1:9,3:4,8:12", 1, span(1, 12))
	wantSet(t, "3:4,1:9", 1, span(1, 9))
	wantSet(t, "1:9,3:4,10", 1, span(1, 10))
	wantSet(t, "1:9999", 1, span(1, 9999))
	wantSet(t, "9999:1", 1, span(1, 9999))
	wantSet(t, "9999,1", 1, span(1, 1), span(9999, 9999))
}

func TestReadSetOfStars(t *testing.T) {
	for _, last := range []int{1, 2, 5, 9998, impl.MaxUid} {
		wantSet(t, "*", last, span(last, last))
		wantSet(t, "*:*", last, span(last, last))
		wantSet(t, "*,*", last, span(last, last))
		wantSet(t, "1:*", last, span(1, last))
		wantSet(t, "*:1", last, span(1, last))
		wantSet(t, "*:9999", last, span(last, 9999))
		wantSet(t, "9999:*", last, span(last, 9999))
		wantSet(t, "7:*", last, span(min(last, 7), max(last, 7)))
		wantSet(t, "*:7", last, span(min(last, 7), max(last, 7)))
	}
	wantSet(t, "*,1", 3, span(1, 1), span(3, 3))
	wantSet(t, "*,1", 2, span(1, 2))
	for _, wrong := range []string{"**", "*1", "1*", "*:", ":*", "*:*:*", "*:0", "0:*", "*,", ",*", "* ", " *", "*:10000"} {
		wantNoSet(t, wrong, 5)
	}
}

func TestReadSetOfLasts(t *testing.T) {
	for _, text := range []string{"1", "1:5", "*", "5,7", "*:*", "", "9999"} {
		for _, last := range []int{0, -1, impl.MaxUid + 1, impl.MaxUid + 2, math.MinInt, math.MaxInt} {
			wantNoSet(t, text, last)
		}
	}
	for last := 1; last <= impl.MaxUid; last++ {
		wantSet(t, "4", last, span(4, 4))
	}
}

// The figures are counted, not what they come to: needless noughts are figures as others are.
func TestReadSetOfFigures(t *testing.T) {
	for _, c := range []struct {
		text string
		n    int
	}{{"1", 1}, {"12", 12}, {"123", 123}, {"1234", 1234}, {"9999", 9999}, {"01", 1}, {"001", 1}, {"0001", 1}, {"0090", 90}, {"0999", 999}} {
		wantSet(t, c.text, 7, span(c.n, c.n))
		wantSet(t, c.text+":"+c.text, 7, span(c.n, c.n))
		wantSet(t, c.text+",2", 7, setOfJoined(nil, 2, c.n)...)
		wantSet(t, "2,"+c.text, 7, setOfJoined(nil, 2, c.n)...)
	}
	for _, wrong := range []string{"0", "00", "000", "0000", "00000", "00001", "12345", "10000", "99999", "000001", "4294967297", "18446744073709551617", "36893488147419103233"} {
		wantNoSet(t, wrong, 7)
		wantNoSet(t, "1:"+wrong, 7)
		wantNoSet(t, wrong+":1", 7)
		wantNoSet(t, "*:"+wrong, 7)
		wantNoSet(t, "1,"+wrong, 7)
		wantNoSet(t, wrong+",1", 7)
	}
}

func TestReadSetRefuses(t *testing.T) {
	for _, wrong := range []string{"", ",", ",,", ",1", "1,", "1,,2", "1,2,", ",1,2", ":", "::", "1:", ":1", "1::2", "1:2:3", "1:2:", ":1:2", ",:,", "1,:", ":,1",
		" ", "1 ", " 1", "1, 2", "1 ,2", "1 :2", "1: 2", "+1", "-1", "1:-2", "1:+2", "1-2", "1;2", "1.", "1.0", "1e1", "0x1", "1_0", "a", "1a", "a1", "\x00", "1\x00", "\n", "1\n", "1\r\n", "\xff", "1\xff", "\xef\xbc\x91", "\xd9\xa1", "²", "\"1\""} {
		wantNoSet(t, wrong, 9)
	}
	for c := range 256 {
		if c >= '0' && c <= '9' || strings.ContainsRune(",:*", rune(c)) {
			continue
		}
		one := string([]byte{byte(c)})
		for _, wrong := range []string{one, "1" + one, one + "1", "1" + one + "2", "1:2" + one + "3", "1,2" + one, "*" + one, one + ":2", "1:" + one, "1," + one + ",2"} {
			wantNoSet(t, wrong, 9)
		}
	}
}

// Every text of up to six of some bytes, against the document's rule.
func TestReadSetOfEveryShortText(t *testing.T) {
	const bytes = "0139*:,"
	texts := []string{""}
	for size := 0; size <= 6; size++ {
		var longer []string
		for _, text := range texts {
			got, ok := impl.ReadSet(text, 12)
			want, right := plainReadSet(text, 12)
			if !sameAnswer(got, ok, want, right) {
				t.Fatalf("ReadSet(%q, 12) = %v, %v; want %v, %v", text, got, ok, want, right)
			}
			for i := range len(bytes) {
				longer = append(longer, text+bytes[i:i+1])
			}
		}
		texts = longer
	}
}

func singles(count int, step int) string {
	var parts []string
	for i := range count {
		parts = append(parts, strconv.Itoa(i*step+1))
	}
	return strings.Join(parts, ",")
}

func TestReadSetAtTheMostRanges(t *testing.T) {
	wantSet(t, singles(impl.MaxRanges, 2), 1, sparse(impl.MaxRanges, 1, 1, 1)...)
	wantNoSet(t, singles(impl.MaxRanges+1, 2), 1)
	wantNoSet(t, singles(impl.MaxRanges, 2)+",*", 9999)
	wantSet(t, singles(impl.MaxRanges, 2)+",*", 3, sparse(impl.MaxRanges, 1, 1, 1)...)
	wantSet(t, singles(impl.MaxRanges, 2)+",*", 80, append(sparse(impl.MaxRanges-1, 1, 1, 1), span(79, 80))...)
	// It is the set that must be right, not how it is told.
	wantSet(t, singles(impl.MaxRanges+1, 1), 1, span(1, impl.MaxRanges+1))
	wantSet(t, singles(impl.MaxRanges+1, 2)+",2", 1, append(setOf(span(1, 3)), sparse(impl.MaxRanges-1, 5, 1, 1)...)...)
	wantSet(t, "2,"+singles(impl.MaxRanges+1, 2), 1, append(setOf(span(1, 3)), sparse(impl.MaxRanges-1, 5, 1, 1)...)...)
	wantSet(t, singles(5000, 2)+",1:9999", 1, span(1, 9999))
	wantSet(t, "1:9999,"+singles(5000, 2), 1, span(1, 9999))
	wantNoSet(t, singles(5000, 2), 1)
	wantSet(t, strings.Repeat("7,", 200000)+"7", 1, span(7, 7))
	wantSet(t, singles(9999, 1), 1, span(1, 9999))
	wantNoSet(t, strings.Repeat("7,", 200000), 1)
}

// drawnSet is a right set, mostly of few and close ranges.
func drawnSet(r *rand.Rand) []impl.Range {
	s := []impl.Range{}
	lo := 1 + r.Intn(4)
	for range r.Intn(impl.MaxRanges + 1) {
		hi := lo + r.Intn(6)
		s = append(s, span(lo, hi))
		lo = hi + 2 + r.Intn(3)
	}
	return s
}

func TestDrawnSetChanges(t *testing.T) {
	r := rand.New(rand.NewSource(14))
	s := []impl.Range{}
	refused := 0
	for i := range 4000 {
		lo := 1 + r.Intn(300)
		hi := lo + r.Intn(8)
		wantChanged(t, s, lo, hi)
		var ok bool
		if r.Intn(2) == 0 {
			s, ok = impl.SetAdd(s, lo, hi)
		} else {
			s, ok = impl.SetDrop(s, lo, hi)
		}
		if !ok {
			refused++
		}
		if i%100 == 99 {
			s = drawnSet(r)
		}
		if !impl.SetOk(s) {
			t.Fatalf("the set is not right: %v", s)
		}
	}
	if refused == 0 {
		t.Error("no change was refused: the sets are drawn too short")
	}
}

func TestDrawnSetPairs(t *testing.T) {
	r := rand.New(rand.NewSource(15))
	refused := 0
	for range 2000 {
		a, b := drawnSet(r), drawnSet(r)
		wantPaired(t, a, b)
		if _, ok := impl.SetMeet(a, b); !ok {
			refused++
		}
		if got := impl.SetSize(a); got != plainSize(a) {
			t.Errorf("SetSize(%v) is %d", a, got)
		}
	}
	if refused == 0 {
		t.Error("no pair was refused: the sets are drawn too short")
	}
}

// Told in parts of whatever order and direction, some of them cut in two that meet or overlap, a set is the same.
func TestDrawnSetTexts(t *testing.T) {
	r := rand.New(rand.NewSource(16))
	for range 1000 {
		s := drawnSet(r)
		if len(s) == 0 {
			continue
		}
		last := s[len(s)-1].Hi
		var parts []string
		for _, x := range s {
			middle := x.Lo + r.Intn(x.Hi-x.Lo+1)
			for _, y := range []impl.Range{span(x.Lo, middle), span(min(middle+r.Intn(2), x.Hi), x.Hi)} {
				parts = append(parts, drawnPart(r, y, last))
			}
		}
		r.Shuffle(len(parts), func(i int, j int) { parts[i], parts[j] = parts[j], parts[i] })
		wantSet(t, strings.Join(parts, ","), last, s...)
	}
}

func drawnPart(r *rand.Rand, x impl.Range, last int) string {
	words := []string{strconv.Itoa(x.Lo), strconv.Itoa(x.Hi)}
	if x.Hi == last && r.Intn(2) == 0 {
		words[1] = "*"
	}
	if x.Lo == x.Hi && r.Intn(2) == 0 {
		return words[1]
	}
	if r.Intn(2) == 0 {
		slices.Reverse(words)
	}
	return words[0] + ":" + words[1]
}

// spareSet is s with ranges in the spare room behind it.
func spareSet(s []impl.Range) []impl.Range {
	whole := append(slices.Clone(s), span(7001, 7002), span(7003, 7004), span(7005, 7006), span(7007, 7008))
	return whole[:len(s)]
}

// shares tells whether the two lists, with the room behind them, have memory in common.
func shares[T any](a []T, b []T) bool {
	var one T
	size := unsafe.Sizeof(one)
	from, at := uintptr(unsafe.Pointer(unsafe.SliceData(a))), uintptr(unsafe.Pointer(unsafe.SliceData(b)))
	return cap(a) > 0 && cap(b) > 0 && at < from+uintptr(cap(a))*size && from < at+uintptr(cap(b))*size
}

func TestSetsAnswerNewMemory(t *testing.T) {
	for _, s := range allSets() {
		given := spareSet(s)
		for _, r := range []impl.Range{span(1, 1), span(2, 2), span(6, 6), span(4, 30), span(11, 12), span(500, 600), span(1, impl.MaxUid), span(impl.MaxUid, impl.MaxUid), span(0, 0), span(3, 2)} {
			more, _ := impl.SetAdd(given, r.Lo, r.Hi)
			less, _ := impl.SetDrop(given, r.Lo, r.Hi)
			if shares(more, given) || shares(less, given) {
				t.Errorf("SetAdd or SetDrop(%v, %d, %d) answers memory of its argument", s, r.Lo, r.Hi)
			}
		}
		for _, other := range append(rightSets(), s, given) {
			b := spareSet(other)
			for _, pair := range [][2][]impl.Range{{given, b}, {b, given}, {given, given}} {
				join, _ := impl.SetJoin(pair[0], pair[1])
				meet, _ := impl.SetMeet(pair[0], pair[1])
				if shares(join, given) || shares(join, b) || shares(meet, given) || shares(meet, b) {
					t.Errorf("SetJoin or SetMeet(%v, %v) answers memory of an argument", pair[0], pair[1])
				}
			}
		}
	}
}

func TestSetsLeaveArgumentsAlone(t *testing.T) {
	for _, s := range allSets() {
		given := spareSet(s)
		before := slices.Clone(given[:cap(given)])
		for _, r := range []impl.Range{span(1, 1), span(2, 2), span(4, 6), span(4, 30), span(11, 11), span(21, 29), span(1, impl.MaxUid), span(9000, impl.MaxUid), span(0, 0), span(3, 2)} {
			impl.SetAdd(given, r.Lo, r.Hi)
			impl.SetDrop(given, r.Lo, r.Hi)
			impl.SetHas(given, r.Lo)
		}
		impl.SetOk(given)
		impl.SetSize(given)
		impl.SetText(given)
		for _, other := range allSets() {
			b := spareSet(other)
			impl.SetJoin(given, b)
			impl.SetJoin(b, given)
			impl.SetMeet(given, b)
			impl.SetMeet(b, given)
			if !slices.Equal(b, other) || !slices.Equal(b[:len(b)+4], append(slices.Clone(other), span(7001, 7002), span(7003, 7004), span(7005, 7006), span(7007, 7008))) {
				t.Errorf("the set %v is changed, or the room behind it", other)
			}
		}
		if !slices.Equal(given[:cap(given)], before) {
			t.Errorf("the set %v is changed, or the room behind it", s)
		}
	}
}

// An answer of one call is not changed by the next one that is handed it.
func TestSetsAnswersStand(t *testing.T) {
	var got, copies [][]impl.Range
	s := setOf(span(10, 20), span(30, 40), span(50, 60))
	for i := range 30 {
		var next []impl.Range
		switch i % 4 {
		case 0:
			next, _ = impl.SetAdd(s, 3*i+2, 3*i+3)
		case 1:
			next, _ = impl.SetDrop(s, 2*i, 2*i+1)
		case 2:
			next, _ = impl.SetJoin(s, setOf(span(100+2*i, 101+2*i)))
		case 3:
			next, _ = impl.SetMeet(s, setOf(span(1, 4*i), span(4*i+2, 9000)))
		}
		got, copies = append(got, next), append(copies, slices.Clone(next))
		s = next
	}
	for i := range got {
		if !slices.Equal(got[i], copies[i]) {
			t.Errorf("answer %d is %v now, and was %v", i, got[i], copies[i])
		}
	}
}
