package tests

import (
	"math"
	"slices"
	"strings"
	"testing"

	"loop.example/g00884/impl"
)

// wordsOfTinctures holds the words of the tinctures 1 to 9 in order.
var wordsOfTinctures = []string{"gold", "silver", "red", "blue", "black", "green", "purple", "ermine", "vair"}

// contrasts holds a row for every tincture, with its contrast to the tinctures 1 to 9 in order.
var contrasts = []string{
	"002222222",
	"002222211",
	"220000022",
	"220000021",
	"220000012",
	"220000022",
	"220000022",
	"212212201",
	"212122210",
}

// noTinctures are numbers that are not tinctures, some of which are tinctures modulo a power
// of two.
func noTinctures() []int {
	return []int{
		0, -1, -2, -9, 10, 11, 18, 100, 255, 257, 1<<16 + 1, 1<<32 + 1, -1<<32 + 3, 1<<62 + 1, math.MaxInt, math.MinInt,
		math.MinInt + 1,
	}
}

func TestTinctureConstants(t *testing.T) {
	got := []int{
		impl.Gold, impl.Silver, impl.Red, impl.Blue, impl.Black, impl.Green, impl.Purple, impl.Ermine, impl.Vair,
		impl.ClassMetal, impl.ClassColor, impl.ClassFur,
	}
	if !slices.Equal(got, []int{1, 2, 3, 4, 5, 6, 7, 8, 9, 1, 2, 3}) {
		t.Error(got)
	}
}

func TestIsTincture(t *testing.T) {
	for x := 1; x <= 9; x++ {
		if !impl.IsTincture(x) {
			t.Error(x)
		}
	}
	for _, x := range noTinctures() {
		if impl.IsTincture(x) {
			t.Error(x)
		}
	}
}

func TestTinctureWordsRoundTrip(t *testing.T) {
	for i, want := range wordsOfTinctures {
		word, ok := impl.TinctureWord(i + 1)
		if !ok || word != want {
			t.Errorf("TinctureWord(%d) = %q, %v", i+1, word, ok)
		}
		if x, ok := impl.ParseTincture(want); !ok || x != i+1 {
			t.Errorf("ParseTincture(%q) = %d, %v", want, x, ok)
		}
	}
}

func TestParseTinctureRejects(t *testing.T) {
	rejected := []string{
		"", " ", "a", "or", "argent", "gules", "metal", "color", "fur", "tincture", "1", "white", "grey", "gold silver",
		"goldsilver", "gold and silver", "go\x00ld", "gold\x00", "gоld",
	}
	rejected = append(rejected, oddStrings()...)
	for _, word := range wordsOfTinctures {
		rejected = append(rejected, strings.ToUpper(word), strings.ToUpper(word[:1])+word[1:], " "+word, word+" ",
			word+"\n", word[1:], word[:len(word)-1], word+word, word+"s", strings.Repeat(word, impl.MaxString))
	}
	for _, s := range rejected {
		if x, ok := impl.ParseTincture(s); ok || x != 0 {
			t.Errorf("ParseTincture(%.20q) = %d, %v", s, x, ok)
		}
	}
}

func TestClassOf(t *testing.T) {
	for i, want := range []int{1, 1, 2, 2, 2, 2, 2, 3, 3} {
		if class, ok := impl.ClassOf(i + 1); !ok || class != want {
			t.Errorf("ClassOf(%d) = %d, %v", i+1, class, ok)
		}
	}
}

func TestBaseTinctures(t *testing.T) {
	for i, want := range [][]int{{1}, {2}, {3}, {4}, {5}, {6}, {7}, {2, 5}, {2, 4}} {
		if bases, ok := impl.BaseTinctures(i + 1); !ok || !slices.Equal(bases, want) {
			t.Errorf("BaseTinctures(%d) = %v, %v", i+1, bases, ok)
		}
	}
}

func TestEveryPairOfTinctures(t *testing.T) {
	for a := 1; a <= 9; a++ {
		for b := 1; b <= 9; b++ {
			want := int(contrasts[a-1][b-1] - '0')
			if contrast, ok := impl.ContrastOf(a, b); !ok || contrast != want {
				t.Errorf("ContrastOf(%d, %d) = %d, %v", a, b, contrast, ok)
			}
			if clash, ok := impl.Clash(a, b); !ok || clash != (want == 0) {
				t.Errorf("Clash(%d, %d) = %v, %v", a, b, clash, ok)
			}
		}
	}
}

func TestClashIsMutual(t *testing.T) {
	for a := -2; a <= 12; a++ {
		for b := -2; b <= 12; b++ {
			there, okThere := impl.Clash(a, b)
			back, okBack := impl.Clash(b, a)
			if there != back || okThere != okBack {
				t.Errorf("Clash(%d, %d) = %v, %v, but %v, %v the other way", a, b, there, okThere, back, okBack)
			}
		}
	}
}

// TestFurs compares furs with furs and with their base tinctures.
func TestFurs(t *testing.T) {
	for _, c := range []struct {
		a, b, contrast int
	}{
		{impl.Ermine, impl.Ermine, 0}, {impl.Vair, impl.Vair, 0}, {impl.Ermine, impl.Vair, 1},
		{impl.Ermine, impl.Silver, 1}, {impl.Ermine, impl.Black, 1}, {impl.Ermine, impl.Blue, 2},
		{impl.Vair, impl.Silver, 1}, {impl.Vair, impl.Blue, 1}, {impl.Vair, impl.Black, 2},
		{impl.Ermine, impl.Gold, 2}, {impl.Vair, impl.Gold, 2}, {impl.Vair, impl.Purple, 2},
	} {
		for _, pair := range [][2]int{{c.a, c.b}, {c.b, c.a}} {
			clash, ok := impl.Clash(pair[0], pair[1])
			contrast, fine := impl.ContrastOf(pair[0], pair[1])
			if !ok || !fine || clash != (c.contrast == 0) || contrast != c.contrast {
				t.Errorf("%v: clash %v, contrast %d", pair, clash, contrast)
			}
		}
	}
}

func TestTincturesAgainst(t *testing.T) {
	for i, want := range [][]int{
		{3, 4, 5, 6, 7, 8, 9},
		{3, 4, 5, 6, 7, 8, 9},
		{1, 2, 8, 9},
		{1, 2, 8, 9},
		{1, 2, 8, 9},
		{1, 2, 8, 9},
		{1, 2, 8, 9},
		{1, 2, 3, 4, 5, 6, 7, 9},
		{1, 2, 3, 4, 5, 6, 7, 8},
	} {
		if against, ok := impl.TincturesAgainst(i + 1); !ok || !slices.Equal(against, want) {
			t.Errorf("TincturesAgainst(%d) = %v, %v", i+1, against, ok)
		}
	}
}

func TestNumbersThatAreNoTinctures(t *testing.T) {
	for _, x := range noTinctures() {
		word, okWord := impl.TinctureWord(x)
		class, okClass := impl.ClassOf(x)
		bases, okBases := impl.BaseTinctures(x)
		against, okAgainst := impl.TincturesAgainst(x)
		if okWord || okClass || okBases || okAgainst {
			t.Errorf("%d is accepted: %v %v %v %v", x, okWord, okClass, okBases, okAgainst)
		}
		if word != "" || class != 0 || len(bases) != 0 || len(against) != 0 {
			t.Errorf("%d: values beside false: %q %d %v %v", x, word, class, bases, against)
		}
		for _, y := range append(noTinctures(), 1, 2, 3, 4, 5, 6, 7, 8, 9) {
			for _, pair := range [][2]int{{x, y}, {y, x}} {
				clash, okClash := impl.Clash(pair[0], pair[1])
				contrast, okContrast := impl.ContrastOf(pair[0], pair[1])
				if clash || okClash || contrast != 0 || okContrast {
					t.Errorf("%v: clash %v, %v, contrast %d, %v", pair, clash, okClash, contrast, okContrast)
				}
			}
		}
	}
}

func TestListsOfTinctures(t *testing.T) {
	for _, c := range []struct {
		list, counts, first []int
	}{
		{nil, []int{0, 0, 0, 0, 0, 0, 0, 0, 0}, nil},
		{[]int{}, []int{0, 0, 0, 0, 0, 0, 0, 0, 0}, nil},
		{[]int{4}, []int{0, 0, 0, 1, 0, 0, 0, 0, 0}, []int{4}},
		{[]int{3, 1, 3, 2}, []int{1, 1, 2, 0, 0, 0, 0, 0, 0}, []int{3, 1, 2}},
		{[]int{9, 1, 9}, []int{1, 0, 0, 0, 0, 0, 0, 0, 2}, []int{9, 1}},
		{[]int{8, 8, 8}, []int{0, 0, 0, 0, 0, 0, 0, 3, 0}, []int{8}},
		{[]int{9, 8, 7, 6, 5, 4, 3, 2, 1, 2, 9}, []int{1, 2, 1, 1, 1, 1, 1, 1, 2}, []int{9, 8, 7, 6, 5, 4, 3, 2, 1}},
		{[]int{1, 2, 3, 4, 5, 6, 7, 8, 9}, []int{1, 1, 1, 1, 1, 1, 1, 1, 1}, []int{1, 2, 3, 4, 5, 6, 7, 8, 9}},
	} {
		if counts, ok := impl.CountTinctures(c.list); !ok || !slices.Equal(counts, c.counts) {
			t.Errorf("CountTinctures(%v) = %v, %v", c.list, counts, ok)
		}
		if first, ok := impl.FirstOf(c.list); !ok || !slices.Equal(first, c.first) {
			t.Errorf("FirstOf(%v) = %v, %v", c.list, first, ok)
		}
	}
}

func TestLongListsOfTinctures(t *testing.T) {
	list := append(slices.Repeat([]int{7}, 39), 2, 7)
	if counts, ok := impl.CountTinctures(list[:40]); !ok || !slices.Equal(counts, []int{0, 1, 0, 0, 0, 0, 39, 0, 0}) {
		t.Error("40 tinctures", counts, ok)
	}
	if first, ok := impl.FirstOf(list[:40]); !ok || !slices.Equal(first, []int{7, 2}) {
		t.Error("40 tinctures", first, ok)
	}
	for _, long := range [][]int{list, slices.Repeat([]int{1, 2}, 30000)} {
		rejectList(t, long)
	}
}

// rejectList checks that the functions of lists refuse a list.
func rejectList(t *testing.T, list []int) {
	t.Helper()
	if counts, ok := impl.CountTinctures(list); ok || len(counts) != 0 {
		t.Errorf("CountTinctures of %d numbers: %v, %v", len(list), counts, ok)
	}
	if first, ok := impl.FirstOf(list); ok || len(first) != 0 {
		t.Errorf("FirstOf of %d numbers: %v, %v", len(list), first, ok)
	}
}

// TestListsWithOtherNumbers puts a number that is no tincture at the start, in the middle and
// at the end of a list.
func TestListsWithOtherNumbers(t *testing.T) {
	for _, x := range noTinctures() {
		rejectList(t, []int{x})
		for _, at := range []int{0, 1, 2, 38, 39} {
			list := slices.Repeat([]int{1, 9, 3, 3}, 10)
			list[at] = x
			rejectList(t, list)
		}
	}
}

// TestFirstOfAgreesWithCounts draws lists from a fixed sequence of numbers.
func TestFirstOfAgreesWithCounts(t *testing.T) {
	seed := 1
	for n := range 1000 {
		list := make([]int, n%41)
		for i := range list {
			seed = (seed*75 + 74) % 65537
			list[i] = seed%(n%9+1) + 1
		}
		counts, ok := impl.CountTinctures(list)
		first, fine := impl.FirstOf(list)
		if !ok || !fine || len(counts) != 9 {
			t.Fatalf("%v: %v, %v", list, ok, fine)
		}
		last, total := -1, 0
		for _, x := range first {
			at := slices.Index(list, x)
			if at <= last {
				t.Fatalf("FirstOf(%v) = %v", list, first)
			}
			last = at
			total += counts[x-1]
		}
		if total != len(list) {
			t.Fatalf("%v: counts %v, first %v", list, counts, first)
		}
	}
}

func TestTincturesLeaveArguments(t *testing.T) {
	whole := []int{5, 3, 1, 3, 99}
	kept := slices.Clone(whole)
	list := whole[1:4]
	counts, _ := impl.CountTinctures(list)
	first, _ := impl.FirstOf(list)
	counts[0] = 77
	first[0] = 77
	_ = append(first, 77, 77, 77)
	if !slices.Equal(whole, kept) {
		t.Errorf("the argument became %v", whole)
	}
	if again, ok := impl.FirstOf(list); !ok || !slices.Equal(again, []int{3, 1}) {
		t.Error("the first ones", again, ok)
	}
}

func TestTinctureListsAreNewMemory(t *testing.T) {
	for x := 1; x <= 9; x++ {
		bases, _ := impl.BaseTinctures(x)
		against, _ := impl.TincturesAgainst(x)
		keptBases, keptAgainst := slices.Clone(bases), slices.Clone(against)
		for i := range bases {
			bases[i] = 77
		}
		for i := range against {
			against[i] = 77
		}
		basesAgain, _ := impl.BaseTinctures(x)
		againstAgain, _ := impl.TincturesAgainst(x)
		if !slices.Equal(basesAgain, keptBases) || !slices.Equal(againstAgain, keptAgainst) {
			t.Errorf("%d: %v and %v after a change", x, basesAgain, againstAgain)
		}
	}
}
