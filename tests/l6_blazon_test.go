package tests

import (
	"math"
	"regexp"
	"slices"
	"strings"
	"testing"

	"loop.example/g00884/impl"
)

// wordsOfOrdinaries holds the words of the ordinaries 1 to 7 in order.
var wordsOfOrdinaries = []string{"pale", "fess", "bend", "chevron", "cross", "saltire", "chief"}

// The text of the example of the document, and the arms that it stands for.
const fullText = "blue, a bend wavy gold charged with three roses red between two lions rampant silver"

var fullArms = impl.Arms{
	Field: plainBlue, Ordinary: impl.OrdBend, Line: impl.LineWavy, Tincture: impl.Gold, On: threeRoses,
	Around: impl.Group{Count: 2, Kind: impl.KindLion, Attitude: 1, Tincture: impl.Silver},
}

// everyOrdinary returns the texts that the document gives to the ordinaries, lines and
// tinctures.
func everyOrdinary() map[[3]int]string {
	ordinaries := map[[3]int]string{}
	for o, ordinary := range wordsOfOrdinaries {
		for l, line := range append([]string{""}, wordsOfLines...) {
			for x, tincture := range wordsOfTinctures {
				text := "a " + ordinary + " " + line + " " + tincture
				ordinaries[[3]int{o + 1, l, x + 1}] = strings.ReplaceAll(text, "  ", " ")
			}
		}
	}
	return ordinaries
}

// armsTexts writes and reads arms as the document says it.
type armsTexts struct {
	fields        map[impl.Field]string
	groups        map[impl.Group]string
	ordinaries    map[[3]int]string
	fieldOf       map[string]impl.Field
	groupOf       map[string]impl.Group
	afterOrdinary *regexp.Regexp
}

func newArmsTexts() *armsTexts {
	x := &armsTexts{fields: everyField(), groups: everyGroup(), ordinaries: everyOrdinary()}
	x.fieldOf, x.groupOf = map[string]impl.Field{}, map[string]impl.Group{}
	for f, text := range x.fields {
		x.fieldOf[text] = f
	}
	for g, text := range x.groups {
		x.groupOf[text] = g
	}
	x.afterOrdinary = regexp.MustCompile(`^(?: charged with (.+?))?(?: (above|between) (.+))?$`)
	return x
}

// layers returns the texts of the layers of valid arms.
func (x *armsTexts) layers(a impl.Arms) []string {
	texts := []string{x.fields[a.Field]}
	if a.Ordinary != 0 {
		texts = append(texts, x.ordinaries[[3]int{a.Ordinary, a.Line, a.Tincture}])
	}
	if a.On.Count != 0 {
		texts = append(texts, x.groups[a.On])
	}
	if a.Around.Count != 0 {
		texts = append(texts, x.groups[a.Around])
	}
	return texts
}

// text returns the canonical text of valid arms.
func (x *armsTexts) text(a impl.Arms) string {
	text := x.fields[a.Field]
	if a.Ordinary != 0 {
		text += ", " + x.ordinaries[[3]int{a.Ordinary, a.Line, a.Tincture}]
		if a.On.Count != 0 {
			text += " charged with " + x.groups[a.On]
		}
	}
	if a.Around.Count != 0 {
		text += map[bool]string{true: ", ", false: " between "}[a.Ordinary == 0]
		if a.Ordinary == 7 {
			text = strings.TrimSuffix(text, " between ") + " above "
		}
		text += x.groups[a.Around]
	}
	return text
}

// read returns the arms whose canonical text is s.
func (x *armsTexts) read(s string) (impl.Arms, bool) {
	parts := strings.Split(s, ", ")
	f, known := x.fieldOf[parts[0]]
	if !known || len(parts) > 2 {
		return impl.Arms{}, false
	}
	if len(parts) == 1 {
		return impl.Arms{Field: f}, true
	}
	if g, known := x.groupOf[parts[1]]; known {
		return impl.Arms{Field: f, Around: g}, true
	}
	for numbers, text := range x.ordinaries {
		if rest, ok := strings.CutPrefix(parts[1], text); ok {
			a := impl.Arms{Field: f, Ordinary: numbers[0], Line: numbers[1], Tincture: numbers[2]}
			return x.readGroups(a, rest)
		}
	}
	return impl.Arms{}, false
}

// readGroups adds the groups whose text follows that of an ordinary.
func (x *armsTexts) readGroups(a impl.Arms, s string) (impl.Arms, bool) {
	found := x.afterOrdinary.FindStringSubmatch(s)
	if found == nil {
		return impl.Arms{}, false
	}
	on, isOn := x.groupOf[found[1]]
	around, isAround := x.groupOf[found[3]]
	link := "between"
	if a.Ordinary == 7 {
		link = "above"
	}
	if !isOn && found[1] != "" || !isAround && found[3] != "" || found[2] != "" && found[2] != link {
		return impl.Arms{}, false
	}
	a.On, a.Around = on, around
	return a, true
}

// check compares ParseArms with what the document says of a text, and returns whether it has
// arms.
func (x *armsTexts) check(t *testing.T, s string) bool {
	t.Helper()
	want, known := x.read(s)
	if a, ok := impl.ParseArms(s); ok != known || a != want {
		t.Errorf("ParseArms(%q) = %v, %v instead of %v, %v", s, a, ok, want, known)
	}
	return known
}

// checkBoth checks that arms have a text as wanted and are recovered from it.
func (x *armsTexts) checkBoth(t *testing.T, a impl.Arms) {
	t.Helper()
	want := x.text(a)
	text, ok := impl.ArmsText(a)
	if !ok || text != want {
		t.Errorf("ArmsText(%v) = %q, %v instead of %q", a, text, ok, want)
	}
	if b, ok := impl.ParseArms(want); !ok || b != a {
		t.Errorf("ParseArms(%q) = %v, %v instead of %v", want, b, ok, a)
	}
}

// rejectArms checks that a text is the canonical text of no arms.
func rejectArms(t *testing.T, s string) {
	t.Helper()
	a, ok := impl.ParseArms(s)
	if ok || a != (impl.Arms{}) {
		t.Errorf("ParseArms(%.80q) = %v, %v", s, a, ok)
	}
}

// armsOf returns the arms with a canonical text.
func armsOf(t *testing.T, s string) impl.Arms {
	t.Helper()
	a, ok := impl.ParseArms(s)
	if !ok {
		t.Fatalf("ParseArms(%q) fails", s)
	}
	return a
}

// listOf returns the arms with canonical texts.
func listOf(t *testing.T, texts ...string) []impl.Arms {
	t.Helper()
	var list []impl.Arms
	for _, s := range texts {
		list = append(list, armsOf(t, s))
	}
	return list
}

func TestArmsTextExamples(t *testing.T) {
	star := impl.Group{Count: 1, Kind: impl.KindStar, Tincture: impl.Blue}
	fish := impl.Group{Count: 4, Kind: impl.KindFish, Attitude: 1, Tincture: impl.Ermine}
	quarterly := impl.Field{Division: impl.DivQuarter, Line: impl.LineIndented, First: impl.Ermine, Second: impl.Purple}
	barry := impl.Field{Division: impl.DivBarry, First: impl.Black, Second: impl.Green}
	for _, c := range []struct {
		a    impl.Arms
		text string
	}{
		{fullArms, fullText},
		{impl.Arms{Field: plainBlue}, "blue"},
		{impl.Arms{Field: paleGoldRed}, "per pale wavy gold and red"},
		{impl.Arms{Field: quarterly}, "quarterly indented ermine and purple"},
		{impl.Arms{Field: plainBlue, Around: star}, "blue, a star blue"},
		{impl.Arms{Field: plainBlue, Around: oneEagle}, "blue, an eagle displayed black"},
		{impl.Arms{Field: barry, Around: fish}, "barry black and green, four fish swimming ermine"},
		{impl.Arms{Field: paleGoldRed, Around: sixStars}, "per pale wavy gold and red, six stars vair"},
		{impl.Arms{Field: plainBlue, Ordinary: 1, Tincture: 1}, "blue, a pale gold"},
		{impl.Arms{Field: plainBlue, Ordinary: 2, Line: 3, Tincture: 2}, "blue, a fess embattled silver"},
		{impl.Arms{Field: barry, Ordinary: 7, Line: 1, Tincture: 9}, "barry black and green, a chief engrailed vair"},
		{impl.Arms{Field: plainBlue, Ordinary: 4, Tincture: 8, On: star}, "blue, a chevron ermine charged with a star blue"},
		{impl.Arms{Field: plainBlue, Ordinary: 5, Tincture: 8, Around: star}, "blue, a cross ermine between a star blue"},
		{impl.Arms{Field: plainBlue, Ordinary: 7, Tincture: 8, On: star}, "blue, a chief ermine charged with a star blue"},
		{impl.Arms{Field: plainBlue, Ordinary: 7, Tincture: 8, Around: star}, "blue, a chief ermine above a star blue"},
		{impl.Arms{Field: barry, Ordinary: 6, Line: 4, Tincture: 2, On: fish, Around: oneEagle}, "barry black and green, a saltire indented silver charged with four fish swimming ermine between an eagle displayed black"},
		{impl.Arms{Field: plainBlue, Ordinary: 7, Line: 2, Tincture: 1, On: oneEagle, Around: sixStars}, "blue, a chief wavy gold charged with an eagle displayed black above six stars vair"},
	} {
		if text, ok := impl.ArmsText(c.a); !ok || text != c.text {
			t.Errorf("ArmsText(%v) = %q, %v", c.a, text, ok)
		}
		a, ok := impl.ParseArms(c.text)
		isArms(t, a, ok, c.a)
	}
}

// TestArmsTextsRoundTrip recovers arms of every shape from their texts, which are all different.
func TestArmsTextsRoundTrip(t *testing.T) {
	x := newArmsTexts()
	seen := map[string]impl.Arms{}
	for _, a := range someArms() {
		x.checkBoth(t, a)
		text, _ := impl.ArmsText(a)
		if b, known := seen[text]; known && b != a {
			t.Errorf("%v and %v have the text %q", a, b, text)
		}
		seen[text] = a
	}
}

func TestArmsTextsOfEveryField(t *testing.T) {
	x := newArmsTexts()
	chief := impl.Arms{Ordinary: 7, Line: 4, Tincture: 1, On: threeRoses, Around: oneEagle}
	fess := impl.Arms{Ordinary: 2, Tincture: 9, Around: sixStars}
	for f := range x.fields {
		for _, a := range []impl.Arms{{}, {Around: twoLions}, {Ordinary: 1, Line: 1, Tincture: 3}, chief, fess} {
			a.Field = f
			x.checkBoth(t, a)
		}
	}
}

func TestArmsTextsOfEveryGroup(t *testing.T) {
	x := newArmsTexts()
	for g := range x.groups {
		x.checkBoth(t, impl.Arms{Field: plainBlue, Around: g})
		x.checkBoth(t, impl.Arms{Field: paleGoldRed, Around: g})
		for ordinary := impl.OrdPale; ordinary <= impl.OrdChief; ordinary++ {
			a := impl.Arms{Field: paleGoldRed, Ordinary: ordinary, Tincture: impl.Vair}
			for _, groups := range [][2]impl.Group{{g, {}}, {{}, g}, {g, g}, {g, oneEagle}, {threeRoses, g}} {
				a.On, a.Around = groups[0], groups[1]
				x.checkBoth(t, a)
			}
		}
	}
}

func TestArmsTextsOfEveryOrdinary(t *testing.T) {
	x := newArmsTexts()
	for numbers := range x.ordinaries {
		for _, groups := range [][2]impl.Group{{}, {threeRoses, {}}, {{}, oneEagle}, {oneEagle, twoLions}} {
			for _, f := range []impl.Field{plainBlue, paleGoldRed} {
				x.checkBoth(t, impl.Arms{
					Field: f, Ordinary: numbers[0], Line: numbers[1], Tincture: numbers[2], On: groups[0], Around: groups[1],
				})
			}
		}
	}
}

// TestLinkOfAround checks the word before the group around every ordinary: a chief is above
// it, all others are between it, and without an ordinary a comma stands before it.
func TestLinkOfAround(t *testing.T) {
	rejectArms(t, "red between a star gold")
	rejectArms(t, "red above a star gold")
	if a, ok := impl.ParseArms("red, a star gold"); !ok || a.Ordinary != impl.OrdNone || a.Around.Kind != impl.KindStar {
		t.Error(a, ok)
	}
	for o, word := range wordsOfOrdinaries {
		right, wrong := " between ", " above "
		if word == "chief" {
			right, wrong = wrong, right
		}
		for _, start := range []string{"red, a " + word + " gold", "red, a " + word + " wavy gold charged with two keys blue"} {
			if a, ok := impl.ParseArms(start + right + "a star gold"); !ok || a.Ordinary != o+1 || a.Around.Kind != impl.KindStar {
				t.Error(start, right, a, ok)
			}
			rejectArms(t, start+wrong+"a star gold")
			rejectArms(t, start+", a star gold")
			rejectArms(t, start+" a star gold")
			rejectArms(t, start+right)
			rejectArms(t, start+right+"a star gold"+right+"a star gold")
			rejectArms(t, start+right+"a star gold"+wrong+"a star gold")
			rejectArms(t, start+wrong+"a star gold"+right+"a star gold")
			rejectArms(t, start+right+"a star gold charged with a star gold")
		}
	}
}

func TestParseArmsRejects(t *testing.T) {
	rejected := []string{
		"", " ", ",", ", ", ", , ", "gold,", "gold, ", "gold , ", " gold", "gold ", "Gold", "GOLD", "golden", "gol", "yellow",
		"per pale", "per pale gold", "per pale gold and", "per pale gold and gold", "gold and red", "a star gold", "a bend gold",
		", a star gold", ", a bend gold", "a star gold, gold", "a bend gold, blue", "blue, gold", "blue, per pale gold and red",
		"blue, blue", "blue, a bend", "blue, a bend ", "blue, a bend gold ", "blue,  a bend gold", "blue , a bend gold",
		"blue,a bend gold", "blue a bend gold", "blue; a bend gold", "blue. a bend gold", "blue, bend gold", "blue, an bend gold",
		"blue, the bend gold", "blue, two bends gold", "blue, a bends gold", "blue, a bend straight gold", "blue, a bend none gold",
		"blue, a bend wavy", "blue, a wavy bend gold", "blue, a bend gold wavy", "blue, a bend wavy wavy gold",
		"blue, a bend wavy indented gold", "blue, a bend gold and red", "blue, a bend gold gold", "blue, a bend gold, a fess red",
		"blue, a bend gold, a star red", "blue, a star red, a bend gold", "blue, a star red, a star red", "blue, a star red,",
		"blue, a star red, ", "blue, a star", "blue, star red", "blue, two star red", "blue, a eagle displayed red",
		"blue, a star red between a star red", "blue, a star red charged with a star red", "blue, a star red above a star red",
		"blue charged with a star red", "blue, charged with a star red", "blue,  charged with a star red",
		"blue, a bend gold charged with", "blue, a bend gold charged with ", "blue, a bend gold charged a star red",
		"blue, a bend gold with a star red", "blue, a bend gold charged with a star", "blue, a bend gold charged with a bend red",
		"blue, a bend gold  charged with a star red", "blue, a bend gold charged  with a star red",
		"blue, a bend gold charged with  a star red", "blue, a bend gold, charged with a star red",
		"blue, a bend gold charged with a star red charged with a star red", "blue, a bend gold charged with none",
		"blue, a bend gold between", "blue, a bend gold between ", "blue, a bend gold between a star",
		"blue, a bend gold between a fess red", "blue, a bend gold  between a star red", "blue, a bend gold between  a star red",
		"blue, a bend gold, between a star red", "blue, a bend gold between a star red and a star red",
		"blue, a bend gold between a star red charged with a key blue",
		"blue, a bend gold charged with between a star red", "blue, a bend gold charged with  between a star red",
		"blue, a bend charged with a star red", "blue, a bend between a star red", "blue, charged with a star red between a key gold",
		"blue, between a star red", "blue, a chief gold below a star red", "blue, a chief gold around a star red",
		"blue, a chief gold between a star red", "blue, a fess gold above a star red", "above a star red", " above a star red",
		"blue, above a star red", "blue, a chief above a star red", "blue, a chief gold above", "blue, a chief gold above ",
		"blue, a chief gold above a chief gold", "blue, a chief gold above a star red between a star red",
		"blue, a chief gold charged with above a star red", "blue, none", "blue, a none gold", "blue, a bar gold", "blue, a 3 gold",
		"blue, a quarterly gold", "blue, a per bend gold", "blue, a paly gold", "blue, a Bend gold", "Blue, a bend gold",
		"blue, A bend gold", "blue, a bend Gold", "blue, a bend gold.", "blue, a bend gold\n", "blue, a bend gold\x00",
		"blue,\ta bend gold", "blue,\u00a0a bend gold", "blue, a bend gold\u00e9", "bl\xffue, a bend gold", "blue, a b\xc3nd gold",
		"\xff", "\xffblue", "blue\xff", "\ufeffblue", "bl\u00fce", "blue\u201a a bend gold", "blue, a bend g\u043eld",
		strings.Repeat("blue, ", 10000), strings.Repeat("blue, a bend gold ", 10000), strings.Repeat(", ", 10000),
		"blue, " + strings.Repeat("a bend gold between ", 10000) + "a star red", "blue" + strings.Repeat(", a star red", 10000),
		"blue, a bend gold" + strings.Repeat(" charged with a star red", 10000), strings.Repeat(" above ", 10000),
		"blue, a chief gold" + strings.Repeat(" above", 10000) + " a star red", strings.Repeat("x", 100000),
		"blue, " + strings.Repeat(" ", 10000) + "a star red", "blue, a bend" + strings.Repeat(" wavy", 10000) + " gold",
	}
	x := newArmsTexts()
	for _, s := range append(rejected, oddStrings()...) {
		rejectArms(t, s)
		if _, known := x.read(s); known {
			t.Errorf("%.80q is the text of arms", s)
		}
	}
}

// TestParseArmsIsInverse changes texts by a byte, a word or a part, and accepts a changed one
// only if it is the canonical text of arms.
func TestParseArmsIsInverse(t *testing.T) {
	x := newArmsTexts()
	extra := []string{
		"", ",", "a", "an", "two", "and", "blue", "gold,", "gold", "bend", "chief", "wavy", "star", "stars", "charged", "with",
		"charged with", "above", "between", "per pale",
	}
	list := []impl.Arms{fullArms, {Field: plainBlue, Ordinary: 7, Line: 3, Tincture: 1, On: oneEagle, Around: twoLions}}
	for i, a := range fewArms() {
		if i%5 == 0 {
			list = append(list, a)
		}
	}
	for _, a := range list {
		text := x.text(a)
		for i := range len(text) + 1 {
			x.check(t, text[:i])
			x.check(t, text[i:])
			for _, s := range []string{" ", ",", ", ", "s", "n", "\x80"} {
				x.check(t, text[:i]+s+text[i:])
			}
			if i < len(text) {
				x.check(t, text[:i]+text[i+1:])
				x.check(t, text[:i]+"x"+text[i+1:])
			}
		}
		for _, changed := range changedWords(text, extra) {
			x.check(t, changed)
		}
	}
}

// TestParseArmsOverParts reads all texts of a field and of up to six parts of texts.
func TestParseArmsOverParts(t *testing.T) {
	x := newArmsTexts()
	parts := []string{", ", "a bend gold", "a chief gold", " charged with ", " above ", " between ", "a star red"}
	texts := []string{"red", "per pale red and gold"}
	found := len(texts)
	for range 6 {
		var longer []string
		for _, text := range texts {
			for _, part := range parts {
				longer = append(longer, text+part)
			}
		}
		texts = longer
		for _, text := range texts {
			if x.check(t, text) {
				found++
			}
		}
	}
	// Both fields alone and with a star, and with both ordinaries and every choice of groups.
	if found != 2*(2+2*4) {
		t.Error("found", found)
	}
}

func TestParseArmsWithoutALayer(t *testing.T) {
	for _, c := range []struct{ text, layer string }{
		{fullText, " between two lions rampant silver"}, {fullText, " charged with three roses red"},
		{fullText, " charged with three roses red between two lions rampant silver"},
		{fullText, ", a bend wavy gold charged with three roses red between two lions rampant silver"},
	} {
		if a, ok := impl.ParseArms(strings.Replace(c.text, c.layer, "", 1)); !ok || a == fullArms || a.Field != plainBlue {
			t.Errorf("without %q: %v, %v", c.layer, a, ok)
		}
	}
	for _, layer := range []string{
		"blue, ", "blue", ", a bend wavy gold", "a bend wavy gold ", "a bend wavy gold charged with ", "three roses red",
		" three roses red", "two lions rampant silver", " two lions rampant silver", " charged with", " between",
		"blue, a bend wavy gold charged with ", "blue, a bend wavy gold charged with three roses red between ",
	} {
		rejectArms(t, strings.Replace(fullText, layer, "", 1))
	}
}

func TestOrdinaryTexts(t *testing.T) {
	ordinaries := everyOrdinary()
	if len(ordinaries) != 7*5*9 {
		t.Fatal(len(ordinaries))
	}
	for numbers, want := range ordinaries {
		text, ok := impl.OrdinaryText(numbers[0], numbers[1], numbers[2])
		if !ok || text != want {
			t.Errorf("OrdinaryText(%v) = %q, %v", numbers, text, ok)
		}
		if o, l, x, ok := impl.ParseOrdinary(want); !ok || [3]int{o, l, x} != numbers {
			t.Errorf("ParseOrdinary(%q) = %d, %d, %d, %v", want, o, l, x, ok)
		}
	}
	for text, numbers := range map[string][3]int{
		"a pale gold": {1, 0, 1}, "a fess engrailed silver": {2, 1, 2}, "a bend wavy gold": {3, 2, 1},
		"a chevron indented green": {4, 4, 6}, "a cross vair": {5, 0, 9}, "a saltire embattled ermine": {6, 3, 8}, "a chief red": {7, 0, 3},
	} {
		if ordinaries[numbers] != text {
			t.Errorf("%v has the text %q", numbers, ordinaries[numbers])
		}
	}
}

func TestOrdinaryTextFails(t *testing.T) {
	ordinaries := everyOrdinary()
	numbers := append(farNumbers(), -9, -3, -2, 0, 1, 2, 3, 4, 5, 6, 7, 8, 9, 12)
	for _, o := range numbers {
		for _, l := range numbers {
			for _, x := range numbers {
				want, known := ordinaries[[3]int{o, l, x}]
				if text, ok := impl.OrdinaryText(o, l, x); ok != known || text != want {
					t.Errorf("OrdinaryText(%d, %d, %d) = %q, %v", o, l, x, text, ok)
				}
			}
		}
	}
	for l := range 5 {
		for x := 0; x <= 9; x++ {
			if text, ok := impl.OrdinaryText(impl.OrdNone, l, x); ok || text != "" {
				t.Errorf("OrdinaryText(OrdNone, %d, %d) = %q, %v", l, x, text, ok)
			}
		}
	}
}

// TestParseOrdinaryIsInverse changes texts by a byte or a word, and accepts a changed one only
// if it is the text of an ordinary.
func TestParseOrdinaryIsInverse(t *testing.T) {
	numbersOf := map[string][3]int{}
	for numbers, text := range everyOrdinary() {
		numbersOf[text] = numbers
	}
	check := func(s string) {
		want, known := numbersOf[s]
		if o, l, x, ok := impl.ParseOrdinary(s); ok != known || [3]int{o, l, x} != want {
			t.Errorf("ParseOrdinary(%.60q) = %d, %d, %d, %v", s, o, l, x, ok)
		}
	}
	extra := []string{"", "a", "an", "two", "bend", "chief", "wavy", "straight", "gold", "red", "none", "gold,"}
	for text := range numbersOf {
		for i := range len(text) + 1 {
			check(text[:i])
			check(text[i:])
			check(text[:i] + " " + text[i:])
			check(text[:i] + "s" + text[i:])
			check(text[:i] + "\xe9" + text[i:])
			if i < len(text) {
				check(text[:i] + text[i+1:])
			}
		}
		for _, changed := range changedWords(text, extra) {
			check(changed)
		}
	}
	for _, s := range append(oddStrings(), "blue, a bend gold", "a bend gold charged with a star red", "a star red", "a a bend gold",
		"a bend gold between two stars red", "a chief gold above a star red", "blue", "a", "a ", "A bend gold", "bend gold",
		strings.Repeat("a ", 10000), "a bend "+strings.Repeat("wavy ", 10000)+"gold", strings.Repeat("a bend gold ", 10000)) {
		check(s)
	}
}

func TestLayerTextsExamples(t *testing.T) {
	for text, want := range map[string][]string{
		fullText:                               {"blue", "a bend wavy gold", "three roses red", "two lions rampant silver"},
		"blue":                                 {"blue"},
		"per pale wavy gold and red":           {"per pale wavy gold and red"},
		"blue, a star gold":                    {"blue", "a star gold"},
		"blue, a chief gold":                   {"blue", "a chief gold"},
		"blue, a chief gold above a star red":  {"blue", "a chief gold", "a star red"},
		"blue, a pale gold between a star red": {"blue", "a pale gold", "a star red"},
		"blue, a pale wavy gold charged with an eagle rising black": {"blue", "a pale wavy gold", "an eagle rising black"},
	} {
		if texts, ok := impl.LayerTexts(armsOf(t, text)); !ok || !slices.Equal(texts, want) {
			t.Errorf("LayerTexts(%q) = %q, %v", text, texts, ok)
		}
	}
}

func TestLayerTextsOfSomeArms(t *testing.T) {
	x := newArmsTexts()
	for _, a := range someArms() {
		texts, ok := impl.LayerTexts(a)
		if !ok || !slices.Equal(texts, x.layers(a)) {
			t.Errorf("LayerTexts(%v) = %q, %v", a, texts, ok)
		}
		if n, _ := impl.LayerCount(a); n != len(texts) {
			t.Errorf("LayerTexts(%v) = %q for %d layers", a, texts, n)
		}
		for i := range texts {
			texts[i] = "changed"
		}
		if again, ok := impl.LayerTexts(a); !ok || !slices.Equal(again, x.layers(a)) {
			t.Errorf("LayerTexts(%v) = %q after a change", a, again)
		}
	}
}

func TestWordCount(t *testing.T) {
	for text, want := range map[string]int{
		fullText: 15, "blue": 1, "per pale wavy gold and red": 6, "quarterly gold and red": 4, "blue, a star gold": 4,
		"blue, a chief gold": 4, "blue, a chief wavy gold above a lion rampant red": 10,
		"per saltire indented gold and red, a saltire indented gold charged with six lions rampant red between two stars red": 20,
	} {
		if n, ok := impl.WordCount(armsOf(t, text)); !ok || n != want {
			t.Errorf("WordCount(%q) = %d, %v", text, n, ok)
		}
	}
	x := newArmsTexts()
	for _, a := range someArms() {
		if n, ok := impl.WordCount(a); !ok || n != len(strings.Fields(x.text(a))) {
			t.Errorf("WordCount(%v) = %d, %v", a, n, ok)
		}
	}
}

func TestWrapArmsExamples(t *testing.T) {
	eighty := "per saltire wavy green and red, a bend wavy gold charged with three roses silver"
	longer := strings.Replace(eighty, "green", "purple", 1)
	for _, c := range []struct {
		text  string
		width int
		lines []string
	}{
		{fullText, 12, []string{"blue, a bend", "wavy gold", "charged with", "three roses", "red between", "two lions", "rampant", "silver"}},
		{fullText, 13, []string{"blue, a bend", "wavy gold", "charged with", "three roses", "red between", "two lions", "rampant", "silver"}},
		{fullText, 14, []string{"blue, a bend", "wavy gold", "charged with", "three roses", "red between", "two lions", "rampant silver"}},
		{fullText, 17, []string{"blue, a bend wavy", "gold charged with", "three roses red", "between two lions", "rampant silver"}},
		{fullText, 80, []string{"blue, a bend wavy gold charged with three roses red between two lions rampant", "silver"}},
		{fullText, 77, []string{"blue, a bend wavy gold charged with three roses red between two lions rampant", "silver"}},
		{fullText, 76, []string{"blue, a bend wavy gold charged with three roses red between two lions", "rampant silver"}},
		{"blue", 12, []string{"blue"}}, {"blue", 80, []string{"blue"}},
		{"per pale red and blue", 12, []string{"per pale red", "and blue"}},
		{"barry red and gold, a chief gold", 12, []string{"barry red", "and gold, a", "chief gold"}},
		{"quarterly embattled purple and silver", 12, []string{"quarterly", "embattled", "purple and", "silver"}},
		{eighty, 80, []string{eighty}}, {eighty, 79, []string{strings.TrimSuffix(eighty, " silver"), "silver"}},
		{longer, 80, []string{strings.TrimSuffix(longer, " silver"), "silver"}},
	} {
		if lines, ok := impl.WrapArms(armsOf(t, c.text), c.width); !ok || !slices.Equal(lines, c.lines) {
			t.Errorf("WrapArms(%q, %d) = %q, %v", c.text, c.width, lines, ok)
		}
	}
}

// TestWrapArmsWithEveryWidth checks that lines are at most as wide as told and could not take
// another word.
func TestWrapArmsWithEveryWidth(t *testing.T) {
	x := newArmsTexts()
	filled := map[int]bool{}
	for i, a := range someArms() {
		if i%3 != 0 {
			continue
		}
		text := x.text(a)
		for width := 12; width <= 80; width++ {
			lines, ok := impl.WrapArms(a, width)
			if !ok || strings.Join(lines, " ") != text {
				t.Fatalf("WrapArms(%v, %d) = %q, %v", a, width, lines, ok)
			}
			for j, line := range lines {
				next := ""
				if j+1 < len(lines) {
					next, _, _ = strings.Cut(lines[j+1], " ")
				}
				if line == "" || len(line) > width || next != "" && len(line+" "+next) <= width {
					t.Fatalf("WrapArms(%v, %d) = %q", a, width, lines)
				}
				filled[width] = filled[width] || len(line) == width && j+1 < len(lines)
			}
		}
	}
	for width := 12; width <= 80; width++ {
		if !filled[width] {
			t.Errorf("no line of %d bytes is filled exactly", width)
		}
	}
}

// TestWordsAreNarrow shows that no word of a canonical text is longer than the smallest width,
// so that none of them needs a line of its own for this reason.
func TestWordsAreNarrow(t *testing.T) {
	words := slices.Concat(wordsOfTinctures, wordsOfLines, wordsOfOrdinaries, wordsOfCounts, pluralsOfKinds)
	words = append(append(words, slices.Concat(wordsOfAttitudes...)...), "charged", "with", "between", "above", "and", "an")
	for _, division := range wordsOfDivisions {
		words = append(words, strings.Fields(division)...)
	}
	for _, word := range words {
		if len(word+",") > 12 {
			t.Error(word)
		}
	}
	// The longest words have lines of their own where two of them would not fit.
	a := armsOf(t, "quarterly engrailed ermine and purple, a saltire embattled silver between an eagle displayed purple")
	want := []string{"quarterly", "engrailed", "ermine and", "purple, a", "saltire", "embattled", "silver", "between an", "eagle", "displayed", "purple"}
	if lines, ok := impl.WrapArms(a, 12); !ok || !slices.Equal(lines, want) {
		t.Errorf("%q, %v", lines, ok)
	}
}

func TestWrapArmsRejectsWidths(t *testing.T) {
	for _, a := range fewArms() {
		for _, width := range append(farNumbers(), 11, 81, 0, 1, 2, 5, 82, 100, 4000, -12, -80, 1<<32+12, 1<<62) {
			if lines, ok := impl.WrapArms(a, width); ok || len(lines) != 0 {
				t.Errorf("WrapArms(%v, %d) = %q, %v", a, width, lines, ok)
			}
		}
		for _, width := range []int{12, 80} {
			if lines, ok := impl.WrapArms(a, width); !ok || len(lines) == 0 {
				t.Errorf("WrapArms(%v, %d) = %q, %v", a, width, lines, ok)
			}
		}
	}
}

func TestWrapArmsGivesNewMemory(t *testing.T) {
	first, _ := impl.WrapArms(fullArms, 12)
	kept := slices.Clone(first)
	second, _ := impl.WrapArms(fullArms, 12)
	for i := range first {
		first[i] = "changed"
	}
	_ = append(first[:1], "changed")
	if !slices.Equal(second, kept) {
		t.Errorf("%q instead of %q", second, kept)
	}
}

// TestArmsBeforeExamples compares arms in the order of their texts.
func TestArmsBeforeExamples(t *testing.T) {
	ordered := listOf(t,
		"barry gold and blue", "black", "blue", "blue, a bend gold", "blue, a bend gold between a star red",
		"blue, a bend gold between two stars red", "blue, a bend gold charged with a star red",
		"blue, a bend gold charged with a star red between a star red", "blue, a bend red", "blue, a bend wavy gold",
		"blue, a chief gold", "blue, a chief gold above a star red", "blue, a star red", "blue, an eagle displayed gold",
		"blue, two stars red", "ermine", "per pale blue and gold", "per pale blue and gold, a star red", "per pale engrailed blue and gold",
		"vair",
	)
	for i, a := range ordered {
		for j, b := range ordered {
			if before, ok := impl.ArmsBefore(a, b); !ok || before != (i < j) {
				t.Errorf("ArmsBefore(%v, %v) = %v, %v", a, b, before, ok)
			}
		}
	}
}

func TestArmsBeforeOfEveryPair(t *testing.T) {
	x := newArmsTexts()
	list := fewArms()
	for _, a := range list {
		for _, b := range list {
			before, ok := impl.ArmsBefore(a, b)
			if !ok || before != (x.text(a) < x.text(b)) || before != impl.LessString(x.text(a), x.text(b)) {
				t.Errorf("ArmsBefore(%v, %v) = %v, %v", a, b, before, ok)
			}
		}
	}
}

func TestSortArmsExamples(t *testing.T) {
	for _, c := range []struct {
		texts []string
		order []int
	}{
		{nil, nil}, {[]string{"gold"}, []int{0}}, {[]string{"gold", "gold"}, []int{0, 1}},
		{[]string{"gold", "red"}, []int{0, 1}}, {[]string{"red", "gold"}, []int{1, 0}},
		{[]string{"red", "gold", "red", "gold", "red"}, []int{1, 3, 0, 2, 4}},
		{[]string{"gold, a chief red above a star blue", "gold, a chief red", "gold"}, []int{2, 1, 0}},
		{[]string{"gold, a chief red", "gold, a chief red above a star blue", "gold"}, []int{2, 0, 1}},
		// The order is not that of the numbers.
		{[]string{"gold", "silver", "red", "blue", "black", "green", "purple", "ermine", "vair"}, []int{4, 3, 7, 0, 5, 6, 2, 1, 8}},
		{[]string{"blue, two stars red", "blue, a star red", "blue, three stars red", "blue", "blue, six stars red"}, []int{3, 1, 4, 2, 0}},
	} {
		if order, ok := impl.SortArms(listOf(t, c.texts...)); !ok || !slices.Equal(order, c.order) {
			t.Errorf("SortArms(%q) = %v, %v", c.texts, order, ok)
		}
	}
	if order, ok := impl.SortArms([]impl.Arms{}); !ok || len(order) != 0 {
		t.Errorf("SortArms of no arms = %v, %v", order, ok)
	}
}

// TestSortArmsOfParts sorts parts of a list of arms, of up to 20, with some arms several times.
func TestSortArmsOfParts(t *testing.T) {
	x := newArmsTexts()
	all := someArms()
	for start := range all {
		list := make([]impl.Arms, start%21)
		for i := range list {
			list[i] = all[(start+i%13*(7+start%5))%len(all)]
		}
		kept := slices.Clone(list)
		order, ok := impl.SortArms(list)
		if !ok || len(order) != len(list) {
			t.Fatalf("SortArms(%v) = %v, %v", list, order, ok)
		}
		seen := map[int]bool{}
		for k, i := range order {
			if i < 0 || i >= len(list) || seen[i] {
				t.Fatalf("SortArms(%v) = %v", list, order)
			}
			seen[i] = true
			if k == 0 {
				continue
			}
			last, text := x.text(list[order[k-1]]), x.text(list[i])
			if last > text || last == text && order[k-1] > i {
				t.Fatalf("SortArms(%v) = %v", list, order)
			}
		}
		if !slices.Equal(list, kept) {
			t.Fatalf("SortArms changed %v", kept)
		}
	}
}

func TestSortArmsOfLongLists(t *testing.T) {
	list := slices.Repeat([]impl.Arms{{Field: plainBlue, Around: twoLions}}, 30)
	for n := range 21 {
		var want []int
		for i := range n {
			want = append(want, i)
		}
		if order, ok := impl.SortArms(list[:n]); !ok || !slices.Equal(order, want) {
			t.Errorf("SortArms of %d equal arms = %v, %v", n, order, ok)
		}
		if n == 0 {
			continue
		}
		changed := slices.Clone(list[:n])
		changed[n-1] = impl.Arms{Field: plainBlue}
		want = append([]int{n - 1}, want[:n-1]...)
		if order, ok := impl.SortArms(changed); !ok || !slices.Equal(order, want) {
			t.Errorf("SortArms of %d arms = %v, %v", n, order, ok)
		}
	}
	for n := 21; n <= 30; n++ {
		if order, ok := impl.SortArms(list[:n]); ok || len(order) != 0 {
			t.Errorf("SortArms of %d arms = %v, %v", n, order, ok)
		}
	}
	if order, ok := impl.SortArms(slices.Repeat(list, 1000)); ok || len(order) != 0 {
		t.Errorf("SortArms of many arms = %v, %v", order, ok)
	}
	// What lies behind the end of a list is not read.
	list[20], list[21] = impl.Arms{}, impl.Arms{Field: paleGoldRed}
	if order, ok := impl.SortArms(list[:20]); !ok || len(order) != 20 || order[0] != 0 || list[20] != (impl.Arms{}) {
		t.Errorf("SortArms = %v, %v", order, ok)
	}
}

func TestSortArmsRejectsInvalidArmsAnywhere(t *testing.T) {
	none := noArms()
	for n := 1; n <= 20; n++ {
		for i := range n {
			list := slices.Repeat([]impl.Arms{{Field: plainBlue, Around: twoLions}, {Field: paleGoldRed}}, 10)[:n]
			for j := range 5 {
				list[i] = none[(31*i+17*n+j)%len(none)]
				kept := slices.Clone(list)
				if order, ok := impl.SortArms(list); ok || len(order) != 0 || !slices.Equal(list, kept) {
					t.Errorf("SortArms(%v) = %v, %v", list, order, ok)
				}
			}
		}
	}
}

func TestTextsOfInvalidArms(t *testing.T) {
	for _, a := range noArms() {
		if s, ok := impl.ArmsText(a); ok || s != "" {
			t.Errorf("ArmsText(%v) = %q, %v", a, s, ok)
		}
		if list, ok := impl.LayerTexts(a); ok || len(list) != 0 {
			t.Errorf("LayerTexts(%v) = %q, %v", a, list, ok)
		}
		if n, ok := impl.WordCount(a); ok || n != 0 {
			t.Errorf("WordCount(%v) = %d, %v", a, n, ok)
		}
		for _, width := range []int{12, 40, 80, 11, 81, math.MinInt} {
			if list, ok := impl.WrapArms(a, width); ok || len(list) != 0 {
				t.Errorf("WrapArms(%v, %d) = %q, %v", a, width, list, ok)
			}
		}
		for _, pair := range [][2]impl.Arms{{a, fullArms}, {fullArms, a}, {a, a}} {
			if before, ok := impl.ArmsBefore(pair[0], pair[1]); ok || before {
				t.Errorf("ArmsBefore(%v) = %v, %v", pair, before, ok)
			}
			if order, ok := impl.SortArms(pair[:]); ok || len(order) != 0 {
				t.Errorf("SortArms(%v) = %v, %v", pair, order, ok)
			}
		}
		if order, ok := impl.SortArms([]impl.Arms{a}); ok || len(order) != 0 {
			t.Errorf("SortArms(%v) = %v, %v", a, order, ok)
		}
	}
}
