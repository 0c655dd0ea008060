package tests

import (
	"math"
	"slices"
	"strings"
	"testing"

	"loop.example/g00884/impl"
)

// wordsOfKinds, pluralsOfKinds and wordsOfAttitudes hold the words of the kinds 1 to 8 for one
// charge, for several charges, and of their attitudes in order.
var (
	wordsOfKinds     = []string{"lion", "eagle", "fish", "rose", "star", "tower", "key", "sword"}
	pluralsOfKinds   = []string{"lions", "eagles", "fish", "roses", "stars", "towers", "keys", "swords"}
	wordsOfAttitudes = [][]string{
		{"rampant", "passant"}, {"displayed", "rising"}, {"swimming", "upright"}, nil, nil, nil, nil, nil,
	}
	wordsOfCounts = []string{"a", "two", "three", "four", "five", "six"}
)

// everyGroup returns the valid groups with the texts that the document gives them.
func everyGroup() map[impl.Group]string {
	groups := map[impl.Group]string{}
	for i, count := range wordsOfCounts {
		for k, kind := range wordsOfKinds {
			start := count + " " + pluralsOfKinds[k]
			if i == 0 {
				start = "a " + kind
			}
			if i == 0 && kind == "eagle" {
				start = "an eagle"
			}
			for x, tincture := range wordsOfTinctures {
				g := impl.Group{Count: i + 1, Kind: k + 1, Tincture: x + 1}
				for j, attitude := range wordsOfAttitudes[k] {
					g.Attitude = j + 1
					groups[g] = start + " " + attitude + " " + tincture
				}
				if len(wordsOfAttitudes[k]) == 0 {
					groups[g] = start + " " + tincture
				}
			}
		}
	}
	return groups
}

// someGroups returns valid groups of every kind, attitude and count.
func someGroups() []impl.Group {
	var groups []impl.Group
	for k, attitudes := range wordsOfAttitudes {
		for count := 1; count <= 6; count++ {
			for a := min(1, len(attitudes)); a <= len(attitudes); a++ {
				groups = append(groups, impl.Group{Count: count, Kind: k + 1, Attitude: a, Tincture: 1},
					impl.Group{Count: count, Kind: k + 1, Attitude: a, Tincture: 9})
			}
		}
	}
	return groups
}

// farNumbers returns numbers that are out of every range of a group.
func farNumbers() []int {
	return []int{-1, 10, 11, 1 << 8, 1<<8 + 1, 1<<32 + 1, -1 << 32, math.MinInt, math.MaxInt, math.MinInt + 1, math.MaxInt - 1}
}

// noGroups returns groups that are neither valid nor the zero Group; most of them have a single
// wrong part.
func noGroups() []impl.Group {
	var groups []impl.Group
	for _, g := range someGroups() {
		for _, x := range append(farNumbers(), 0, 7, 9, 1<<62) {
			if x < 1 || x > 6 {
				groups = append(groups, impl.Group{Count: x, Kind: g.Kind, Attitude: g.Attitude, Tincture: g.Tincture})
			}
			if x < 1 || x > 8 {
				groups = append(groups, impl.Group{Count: g.Count, Kind: x, Attitude: g.Attitude, Tincture: g.Tincture})
			}
			if x < 1 || x > 9 {
				groups = append(groups, impl.Group{Count: g.Count, Kind: g.Kind, Attitude: g.Attitude, Tincture: x})
			}
			if x != 0 || g.Kind <= impl.KindFish {
				groups = append(groups, impl.Group{Count: g.Count, Kind: g.Kind, Attitude: x, Tincture: g.Tincture})
			}
		}
		wrong := []int{1, 2, 3}
		if g.Kind <= impl.KindFish {
			wrong = []int{0, 3, 4}
		}
		for _, x := range wrong {
			groups = append(groups, impl.Group{Count: g.Count, Kind: g.Kind, Attitude: x, Tincture: g.Tincture})
		}
	}
	return append(groups, impl.Group{Count: 1}, impl.Group{Kind: 4}, impl.Group{Kind: 1}, impl.Group{Attitude: 1},
		impl.Group{Tincture: 1}, impl.Group{Count: -1}, impl.Group{Attitude: -1})
}

func TestGroupConstants(t *testing.T) {
	kinds := []int{
		impl.KindLion, impl.KindEagle, impl.KindFish, impl.KindRose, impl.KindStar, impl.KindTower, impl.KindKey, impl.KindSword,
	}
	if !slices.Equal(kinds, []int{1, 2, 3, 4, 5, 6, 7, 8}) {
		t.Error(kinds)
	}
}

// TestIsValidGroupExhaustively compares all groups whose parts are in or near what is allowed
// with the list of the valid ones.
func TestIsValidGroupExhaustively(t *testing.T) {
	valid := everyGroup()
	if len(valid) != 6*(3*2+5)*9 {
		t.Fatal(len(valid))
	}
	for count := -2; count <= 9; count++ {
		for kind := -2; kind <= 11; kind++ {
			for attitude := -2; attitude <= 5; attitude++ {
				for tincture := -2; tincture <= 12; tincture++ {
					g := impl.Group{Count: count, Kind: kind, Attitude: attitude, Tincture: tincture}
					_, want := valid[g]
					if impl.IsValidGroup(g) != want {
						t.Errorf("IsValidGroup(%v) = %v", g, !want)
					}
				}
			}
		}
	}
}

func TestGroupTextExamples(t *testing.T) {
	for want, g := range map[string]impl.Group{
		"three lions passant gold":   {Count: 3, Kind: impl.KindLion, Attitude: 2, Tincture: impl.Gold},
		"a lion rampant red":         {Count: 1, Kind: impl.KindLion, Attitude: 1, Tincture: impl.Red},
		"six lions rampant vair":     {Count: 6, Kind: impl.KindLion, Attitude: 1, Tincture: impl.Vair},
		"an eagle displayed black":   {Count: 1, Kind: impl.KindEagle, Attitude: 1, Tincture: impl.Black},
		"an eagle rising ermine":     {Count: 1, Kind: impl.KindEagle, Attitude: 2, Tincture: impl.Ermine},
		"two eagles displayed blue":  {Count: 2, Kind: impl.KindEagle, Attitude: 1, Tincture: impl.Blue},
		"a fish swimming silver":     {Count: 1, Kind: impl.KindFish, Attitude: 1, Tincture: impl.Silver},
		"five fish upright green":    {Count: 5, Kind: impl.KindFish, Attitude: 2, Tincture: impl.Green},
		"a rose red":                 {Count: 1, Kind: impl.KindRose, Tincture: impl.Red},
		"six roses purple":           {Count: 6, Kind: impl.KindRose, Tincture: impl.Purple},
		"a star gold":                {Count: 1, Kind: impl.KindStar, Tincture: impl.Gold},
		"two stars gold":             {Count: 2, Kind: impl.KindStar, Tincture: impl.Gold},
		"a tower silver":             {Count: 1, Kind: impl.KindTower, Tincture: impl.Silver},
		"four towers silver":         {Count: 4, Kind: impl.KindTower, Tincture: impl.Silver},
		"a key black":                {Count: 1, Kind: impl.KindKey, Tincture: impl.Black},
		"six keys ermine":            {Count: 6, Kind: impl.KindKey, Tincture: impl.Ermine},
		"a sword blue":               {Count: 1, Kind: impl.KindSword, Tincture: impl.Blue},
		"three swords vair":          {Count: 3, Kind: impl.KindSword, Tincture: impl.Vair},
		"four eagles rising purple":  {Count: 4, Kind: impl.KindEagle, Attitude: 2, Tincture: impl.Purple},
		"five lions passant ermine":  {Count: 5, Kind: impl.KindLion, Attitude: 2, Tincture: impl.Ermine},
		"three fish swimming black":  {Count: 3, Kind: impl.KindFish, Attitude: 1, Tincture: impl.Black},
		"a fish upright gold":        {Count: 1, Kind: impl.KindFish, Attitude: 2, Tincture: impl.Gold},
		"a lion passant silver":      {Count: 1, Kind: impl.KindLion, Attitude: 2, Tincture: impl.Silver},
		"six eagles displayed green": {Count: 6, Kind: impl.KindEagle, Attitude: 1, Tincture: impl.Green},
	} {
		if text, ok := impl.GroupText(g); !ok || text != want {
			t.Errorf("GroupText(%v) = %q, %v", g, text, ok)
		}
		if h, ok := impl.ParseGroup(want); !ok || h != g {
			t.Errorf("ParseGroup(%q) = %v, %v", want, h, ok)
		}
	}
}

func TestGroupTextsRoundTrip(t *testing.T) {
	texts := map[string]impl.Group{}
	for g, want := range everyGroup() {
		text, ok := impl.GroupText(g)
		if !ok || text != want {
			t.Errorf("GroupText(%v) = %q, %v", g, text, ok)
		}
		if h, ok := impl.ParseGroup(want); !ok || h != g {
			t.Errorf("ParseGroup(%q) = %v, %v", want, h, ok)
		}
		if h, twice := texts[text]; twice {
			t.Errorf("%v and %v have the text %q", g, h, text)
		}
		texts[text] = g
	}
}

// rejectGroup checks that a text is the text of no group.
func rejectGroup(t *testing.T, s string) {
	t.Helper()
	if g, ok := impl.ParseGroup(s); ok || g != (impl.Group{}) {
		t.Errorf("ParseGroup(%.60q) = %v, %v", s, g, ok)
	}
}

func TestParseGroupRejects(t *testing.T) {
	rejected := []string{
		"", " ", "  ", "   ", "    ", "a", "an", "two", "a ", "an ", "a star", "a star ", "an eagle", "an eagle displayed",
		"an eagle displayed ", "star gold", "stars gold", "rampant gold", "gold", "a gold", "two gold", "a rampant gold",
		"a eagle displayed gold", "a eagle rising gold", "an lion rampant gold", "an fish swimming gold", "an rose gold",
		"an star gold", "an tower gold", "an key gold", "an sword gold", "an eagles displayed gold", "an roses gold",
		"one star gold", "one eagle displayed gold", "the star gold", "no stars gold", "zero stars gold", "0 stars gold",
		"1 star gold", "2 stars gold", "seven stars gold", "eight stars gold", "ten stars gold", "seven lions rampant gold",
		"a stars gold", "two star gold", "two rose gold", "six sword gold", "a lions rampant gold", "two lion rampant gold",
		"two eagle displayed gold", "an eagles rising gold", "two fishes swimming gold", "two fishs swimming gold",
		"a fishs swimming gold", "a fishes swimming gold", "two starss gold", "a starss gold", "two star s gold",
		"two roses s gold", "two keyes gold", "two s gold", "a s gold", "two lionss rampant gold",
		"a lion gold", "two lions gold", "an eagle gold", "a fish gold", "six fish gold", "a lion rampant", "a lion rampant ",
		"a lion displayed gold", "a lion rising gold", "a lion swimming gold", "a lion upright gold",
		"an eagle rampant gold", "an eagle passant gold", "an eagle swimming gold", "an eagle upright gold",
		"a fish rampant gold", "a fish passant gold", "a fish displayed gold", "a fish rising gold",
		"a rose rampant gold", "a star displayed gold", "a tower upright gold", "a key swimming gold", "a sword rising gold",
		"two lions rampants gold", "two lions rampant golds", "a lion rampant passant gold", "a lion rampant rampant gold",
		"rampant a lion gold", "a rampant lion gold", "a lion gold rampant", "a gold lion rampant", "lion rampant gold",
		"a a lion rampant gold", "a an eagle displayed gold", "an an eagle displayed gold", "a two stars gold",
		"two two stars gold", "a star star gold", "a star gold gold", "a star gold star", "a star gold and blue",
		"a star of gold", "a big star gold", "a star gold.", "a star, gold", "a star gold ", " a star gold", "a  star gold",
		"a star  gold", "  a star gold", "a star gold  ", "a\tstar gold", "a star\tgold", "a star\u00a0gold", "a star gold\n",
		"a star gold\x00", "\x00a star gold", "a\x00star gold", "a-star-gold", "astargold", "astar gold", "a stargold",
		"A star gold", "a Star gold", "a star Gold", "A STAR GOLD", "An eagle displayed gold", "TWO STARS GOLD",
		"a star yellow", "a star 1", "a star 0", "a star none", "a comet gold", "two comets gold", "a 5 gold", "a kei gold",
		"a lion 1 gold", "a lion none gold", "a rose none gold", "a rose 0 gold", "per pale gold and blue",
		"a star a star gold", "a star gold a star gold", "a star gold\na star gold", "a star gold;a star gold",
		strings.Repeat("a ", 10000), strings.Repeat("a star gold ", 10000), strings.Repeat(" ", 10000) + "a star gold",
		"a star gold" + strings.Repeat(" gold", 10000), "a" + strings.Repeat(" lion", 10000) + " rampant gold",
		"two star" + strings.Repeat("s", 10000) + " gold", strings.Repeat("x ", 10000) + "a star gold",
	}
	for _, s := range append(rejected, oddStrings()...) {
		rejectGroup(t, s)
	}
}

// TestParseGroupArticles tries all first words before all words of kinds, with their own
// attitudes: exactly the ones that the document names are read.
func TestParseGroupArticles(t *testing.T) {
	for k, kind := range wordsOfKinds {
		end := " gold"
		if attitudes := wordsOfAttitudes[k]; len(attitudes) > 0 {
			end = " " + attitudes[0] + " gold"
		}
		article, wrong := "a", "an"
		if kind == "eagle" {
			article, wrong = "an", "a"
		}
		if g, ok := impl.ParseGroup(article + " " + kind + end); !ok || g.Count != 1 || g.Kind != k+1 {
			t.Error(article, kind, g, ok)
		}
		rejectGroup(t, wrong+" "+kind+end)
		rejectGroup(t, kind+end)
		rejectGroup(t, pluralsOfKinds[k]+end)
		rejectGroup(t, "one "+kind+end)
		if kind == "fish" {
			rejectGroup(t, article+" fishs"+end)
		} else {
			rejectGroup(t, article+" "+pluralsOfKinds[k]+end)
			rejectGroup(t, wrong+" "+pluralsOfKinds[k]+end)
		}
		for i, count := range wordsOfCounts[1:] {
			if g, ok := impl.ParseGroup(count + " " + pluralsOfKinds[k] + end); !ok || g.Count != i+2 || g.Kind != k+1 {
				t.Error(count, kind, g, ok)
			}
			if kind == "fish" {
				rejectGroup(t, count+" fishs"+end)
			} else {
				rejectGroup(t, count+" "+kind+end)
			}
		}
	}
}

// TestParseGroupAttitudes tries all words of attitudes, and none, after all words of kinds.
func TestParseGroupAttitudes(t *testing.T) {
	for k := range wordsOfKinds {
		start := "two " + pluralsOfKinds[k]
		want := impl.Group{Count: 2, Kind: k + 1, Tincture: impl.Vair}
		g, ok := impl.ParseGroup(start + " vair")
		if bare := len(wordsOfAttitudes[k]) == 0; ok != bare || bare && g != want || !bare && g != (impl.Group{}) {
			t.Errorf("ParseGroup(%q) = %v, %v", start+" vair", g, ok)
		}
		for _, attitudes := range wordsOfAttitudes {
			for _, attitude := range attitudes {
				text := start + " " + attitude + " vair"
				i := slices.Index(wordsOfAttitudes[k], attitude)
				if i < 0 {
					rejectGroup(t, text)
					continue
				}
				want.Attitude = i + 1
				if g, ok := impl.ParseGroup(text); !ok || g != want {
					t.Errorf("ParseGroup(%q) = %v, %v", text, g, ok)
				}
			}
		}
	}
}

// TestParseGroupIsInverse changes every text by a word or a byte, and accepts the changed one
// only if it is the text of a group.
func TestParseGroupIsInverse(t *testing.T) {
	groupOf := map[string]impl.Group{}
	for g, text := range everyGroup() {
		groupOf[text] = g
	}
	check := func(s string) {
		want, known := groupOf[s]
		if g, ok := impl.ParseGroup(s); ok != known || g != want {
			t.Errorf("ParseGroup(%q) = %v, %v", s, g, ok)
		}
	}
	extra := []string{"", "a", "an", "two", "six", "eagle", "eagles", "fish", "star", "rampant", "rising", "upright", "gold", "s"}
	for _, g := range someGroups() {
		text, _ := impl.GroupText(g)
		for i := range len(text) + 1 {
			check(text[:i])
			check(text[i:])
			check(text[:i] + " " + text[i:])
			check(text[:i] + "s" + text[i:])
			check(text[:i] + "n" + text[i:])
			if i < len(text) {
				check(text[:i] + text[i+1:])
			}
		}
		for _, changed := range changedWords(text, extra) {
			check(changed)
		}
	}
}

// TestParseGroupOverWords reads all texts of up to five of some words.
func TestParseGroupOverWords(t *testing.T) {
	groupOf := map[string]impl.Group{}
	for g, text := range everyGroup() {
		groupOf[text] = g
	}
	words := []string{"a", "an", "two", "eagle", "eagles", "fish", "key", "rising", "upright", "red", ""}
	texts := []string{""}
	found := 0
	for n := range 5 {
		var longer []string
		for _, text := range texts {
			for _, word := range words {
				if n > 0 {
					word = text + " " + word
				}
				longer = append(longer, word)
			}
		}
		texts = longer
		for _, text := range texts {
			want, known := groupOf[text]
			g, ok := impl.ParseGroup(text)
			if ok != known || g != want {
				t.Errorf("ParseGroup(%q) = %v, %v", text, g, ok)
			}
			if ok {
				found++
			}
		}
	}
	// an eagle rising, two eagles rising, a fish upright, two fish upright, a key.
	if found != 5 {
		t.Error("found", found)
	}
}

func TestKindWord(t *testing.T) {
	for k := range wordsOfKinds {
		for count := 1; count <= 6; count++ {
			want := wordsOfKinds[k]
			if count > 1 {
				want = pluralsOfKinds[k]
			}
			if word, ok := impl.KindWord(k+1, count); !ok || word != want {
				t.Errorf("KindWord(%d, %d) = %q, %v", k+1, count, word, ok)
			}
		}
	}
}

func TestKindWordFails(t *testing.T) {
	for _, x := range append(farNumbers(), 0, 7, 9, -6) {
		for _, y := range append(farNumbers(), 0, 1, 2, 6, 7, 8, 9) {
			if x < 1 || x > 6 {
				if word, ok := impl.KindWord(y, x); ok || word != "" {
					t.Errorf("KindWord(%d, %d) = %q, %v", y, x, word, ok)
				}
			}
			if x < 1 || x > 8 {
				if word, ok := impl.KindWord(x, y); ok || word != "" {
					t.Errorf("KindWord(%d, %d) = %q, %v", x, y, word, ok)
				}
			}
		}
	}
}

func TestAttitudesOfAndIsBeast(t *testing.T) {
	for k, want := range wordsOfAttitudes {
		if words, ok := impl.AttitudesOf(k + 1); !ok || !slices.Equal(words, want) {
			t.Errorf("AttitudesOf(%d) = %q, %v", k+1, words, ok)
		}
		if beast, ok := impl.IsBeast(k + 1); !ok || beast != (k < 3) {
			t.Errorf("IsBeast(%d) = %v, %v", k+1, beast, ok)
		}
	}
	for _, x := range append(farNumbers(), 0, 9) {
		if words, ok := impl.AttitudesOf(x); ok || len(words) != 0 {
			t.Errorf("AttitudesOf(%d) = %q, %v", x, words, ok)
		}
		if beast, ok := impl.IsBeast(x); ok || beast {
			t.Errorf("IsBeast(%d) = %v, %v", x, beast, ok)
		}
	}
}

func TestRowsOf(t *testing.T) {
	rows := [][]int{{1}, {1, 1}, {2, 1}, {2, 2}, {2, 1, 2}, {3, 2, 1}}
	for i, want := range rows {
		if got, ok := impl.RowsOf(i + 1); !ok || !slices.Equal(got, want) {
			t.Errorf("RowsOf(%d) = %v, %v", i+1, got, ok)
		}
	}
	for _, x := range append(farNumbers(), 0, 7, 8) {
		if got, ok := impl.RowsOf(x); ok || len(got) != 0 {
			t.Errorf("RowsOf(%d) = %v, %v", x, got, ok)
		}
	}
}

func TestGroupDifferencesExamples(t *testing.T) {
	none := impl.Group{}
	lions := impl.Group{Count: 3, Kind: impl.KindLion, Attitude: 1, Tincture: impl.Gold}
	stars := impl.Group{Count: 2, Kind: impl.KindStar, Tincture: impl.Red}
	for _, c := range []struct {
		a, b impl.Group
		want int
	}{
		{none, none, 0}, {lions, lions, 0}, {stars, stars, 0}, {none, lions, 2}, {none, stars, 2},
		{none, impl.Group{Count: 1, Kind: impl.KindSword, Tincture: impl.Vair}, 2},
		{lions, impl.Group{Count: 1, Kind: impl.KindLion, Attitude: 1, Tincture: impl.Gold}, 1},
		{lions, impl.Group{Count: 3, Kind: impl.KindLion, Attitude: 2, Tincture: impl.Gold}, 1},
		{lions, impl.Group{Count: 3, Kind: impl.KindLion, Attitude: 1, Tincture: impl.Vair}, 1},
		{lions, impl.Group{Count: 6, Kind: impl.KindLion, Attitude: 2, Tincture: impl.Gold}, 2},
		{lions, impl.Group{Count: 6, Kind: impl.KindLion, Attitude: 1, Tincture: impl.Red}, 2},
		{lions, impl.Group{Count: 3, Kind: impl.KindLion, Attitude: 2, Tincture: impl.Red}, 2},
		{lions, impl.Group{Count: 2, Kind: impl.KindLion, Attitude: 2, Tincture: impl.Red}, 3},
		{lions, impl.Group{Count: 3, Kind: impl.KindEagle, Attitude: 1, Tincture: impl.Gold}, 2},
		{lions, impl.Group{Count: 3, Kind: impl.KindEagle, Attitude: 2, Tincture: impl.Gold}, 2},
		{lions, impl.Group{Count: 3, Kind: impl.KindFish, Attitude: 2, Tincture: impl.Blue}, 3},
		{lions, impl.Group{Count: 3, Kind: impl.KindRose, Tincture: impl.Gold}, 2},
		{lions, impl.Group{Count: 2, Kind: impl.KindRose, Tincture: impl.Gold}, 3},
		{lions, stars, 4}, {stars, impl.Group{Count: 1, Kind: impl.KindLion, Attitude: 1, Tincture: impl.Gold}, 4},
		{lions, impl.Group{Count: 1, Kind: impl.KindFish, Attitude: 2, Tincture: impl.Silver}, 4},
		{stars, impl.Group{Count: 3, Kind: impl.KindStar, Tincture: impl.Red}, 1},
		{stars, impl.Group{Count: 2, Kind: impl.KindStar, Tincture: impl.Blue}, 1},
		{stars, impl.Group{Count: 2, Kind: impl.KindKey, Tincture: impl.Red}, 2},
	} {
		if n, ok := impl.GroupDifferences(c.a, c.b); !ok || n != c.want {
			t.Errorf("GroupDifferences(%v, %v) = %d, %v", c.a, c.b, n, ok)
		}
		if n, ok := impl.GroupDifferences(c.b, c.a); !ok || n != c.want {
			t.Errorf("GroupDifferences(%v, %v) = %d, %v", c.b, c.a, n, ok)
		}
	}
}

// countDifferences counts the differences of two groups as the document lists them.
func countDifferences(a, b impl.Group) int {
	if a == b {
		return 0
	}
	if a == (impl.Group{}) || b == (impl.Group{}) {
		return 2
	}
	n := 0
	for _, d := range []struct {
		different bool
		worth     int
	}{
		{a.Count != b.Count, 1}, {a.Kind != b.Kind, 2}, {a.Kind == b.Kind && a.Attitude != b.Attitude, 1}, {a.Tincture != b.Tincture, 1},
	} {
		if d.different {
			n += d.worth
		}
	}
	return n
}

// TestEveryPairOfGroups counts the differences of all groups to some, and joins them.
func TestEveryPairOfGroups(t *testing.T) {
	some := append(someGroups(), impl.Group{})
	all := everyGroup()
	all[impl.Group{}] = ""
	for g := range all {
		for _, h := range some {
			want := countDifferences(g, h)
			for _, pair := range [][2]impl.Group{{g, h}, {h, g}} {
				if n, ok := impl.GroupDifferences(pair[0], pair[1]); !ok || n != want {
					t.Fatalf("GroupDifferences(%v) = %d, %v", pair, n, ok)
				}
				wantJoined := impl.Group{}
				sum := g.Count + h.Count
				fits := g.Count > 0 && h.Count > 0 && sum <= 6 && g.Kind == h.Kind && g.Attitude == h.Attitude && g.Tincture == h.Tincture
				if fits {
					wantJoined = impl.Group{Count: sum, Kind: g.Kind, Attitude: g.Attitude, Tincture: g.Tincture}
				}
				if joined, ok := impl.JoinGroups(pair[0], pair[1]); ok != fits || joined != wantJoined {
					t.Fatalf("JoinGroups(%v) = %v, %v", pair, joined, ok)
				}
			}
		}
	}
}

func TestJoinGroupsExamples(t *testing.T) {
	group := func(count, kind, attitude, tincture int) impl.Group {
		return impl.Group{Count: count, Kind: kind, Attitude: attitude, Tincture: tincture}
	}
	none := impl.Group{}
	for _, c := range []struct{ a, b, want impl.Group }{
		{group(2, 5, 0, 3), group(3, 5, 0, 3), group(5, 5, 0, 3)},
		{group(1, 5, 0, 3), group(1, 5, 0, 3), group(2, 5, 0, 3)},
		{group(3, 1, 2, 1), group(3, 1, 2, 1), group(6, 1, 2, 1)},
		{group(5, 3, 2, 9), group(1, 3, 2, 9), group(6, 3, 2, 9)},
		{group(3, 5, 0, 3), group(4, 5, 0, 3), none},
		{group(6, 5, 0, 3), group(1, 5, 0, 3), none},
		{group(6, 5, 0, 3), group(6, 5, 0, 3), none},
		{group(2, 5, 0, 3), group(2, 6, 0, 3), none},
		{group(2, 5, 0, 3), group(2, 5, 0, 4), none},
		{group(2, 1, 1, 3), group(2, 1, 2, 3), none},
		{group(2, 1, 1, 3), group(2, 2, 1, 3), none},
		{group(2, 1, 1, 3), none, none},
		{group(6, 1, 1, 3), group(-1, 1, 1, 3), none},
		{group(6, 1, 1, 3), group(0, 1, 1, 3), none},
		{none, none, none},
	} {
		for _, pair := range [][2]impl.Group{{c.a, c.b}, {c.b, c.a}} {
			if joined, ok := impl.JoinGroups(pair[0], pair[1]); ok != (c.want != none) || joined != c.want {
				t.Errorf("JoinGroups(%v) = %v, %v", pair, joined, ok)
			}
		}
	}
}

func TestInvalidGroups(t *testing.T) {
	for _, g := range append(noGroups(), impl.Group{}) {
		if impl.IsValidGroup(g) {
			t.Errorf("%v is valid", g)
		}
		if text, ok := impl.GroupText(g); ok || text != "" {
			t.Errorf("GroupText(%v) = %q, %v", g, text, ok)
		}
	}
}

func TestPairsWithInvalidGroups(t *testing.T) {
	invalid := noGroups()
	for _, g := range invalid {
		valid := impl.Group{Count: 1, Kind: impl.KindRose, Tincture: impl.Red}
		for _, h := range []impl.Group{g, {}, valid, {Count: 1, Kind: 1, Attitude: 1, Tincture: 1}, invalid[0], invalid[len(invalid)-1]} {
			for _, pair := range [][2]impl.Group{{g, h}, {h, g}} {
				if n, ok := impl.GroupDifferences(pair[0], pair[1]); ok || n != 0 {
					t.Errorf("GroupDifferences(%v) = %d, %v", pair, n, ok)
				}
				if joined, ok := impl.JoinGroups(pair[0], pair[1]); ok || joined != (impl.Group{}) {
					t.Errorf("JoinGroups(%v) = %v, %v", pair, joined, ok)
				}
			}
		}
	}
}

func TestGroupListsAreNewMemory(t *testing.T) {
	for kind := 1; kind <= 8; kind++ {
		words, _ := impl.AttitudesOf(kind)
		for i := range words {
			words[i] = "changed"
		}
		_ = append(words, "more")
		if again, ok := impl.AttitudesOf(kind); !ok || !slices.Equal(again, wordsOfAttitudes[kind-1]) {
			t.Errorf("AttitudesOf(%d) = %q after a change", kind, again)
		}
	}
	for count := 1; count <= 6; count++ {
		rows, _ := impl.RowsOf(count)
		kept := slices.Clone(rows)
		for i := range rows {
			rows[i] = 77
		}
		if again, ok := impl.RowsOf(count); !ok || !slices.Equal(again, kept) {
			t.Errorf("RowsOf(%d) = %v after a change", count, again)
		}
	}
	if text, ok := impl.GroupText(impl.Group{Count: 1, Kind: 1, Attitude: 1, Tincture: 1}); !ok || text != "a lion rampant gold" {
		t.Errorf("%q after changes", text)
	}
}
