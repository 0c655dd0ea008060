package tests

import (
	"math"
	"slices"
	"strings"
	"testing"

	"loop.example/g00884/impl"
)

// wordsOfDivisions and wordsOfLines hold the words of the divisions 1 to 7 and of the lines 1
// to 4 in order.
var (
	wordsOfDivisions = []string{"per pale", "per fess", "per bend", "quarterly", "per saltire", "paly", "barry"}
	wordsOfLines     = []string{"engrailed", "wavy", "embattled", "indented"}
)

// everyField returns the valid fields with the texts that the document gives them.
func everyField() map[impl.Field]string {
	fields := map[impl.Field]string{}
	for i, first := range wordsOfTinctures {
		fields[impl.Field{First: i + 1}] = first
		for j, second := range wordsOfTinctures {
			if i == j {
				continue
			}
			pair := first + " and " + second
			for d, division := range wordsOfDivisions {
				fields[impl.Field{Division: d + 1, First: i + 1, Second: j + 1}] = division + " " + pair
				for l, line := range wordsOfLines {
					f := impl.Field{Division: d + 1, Line: l + 1, First: i + 1, Second: j + 1}
					fields[f] = division + " " + line + " " + pair
				}
			}
		}
	}
	return fields
}

// someFields returns valid fields of every division, with lines of every kind.
func someFields() []impl.Field {
	fields := []impl.Field{{First: 1}, {First: 4}, {First: 9}}
	for d := 1; d <= 7; d++ {
		for l := range 5 {
			fields = append(fields, impl.Field{Division: d, Line: l, First: 1, Second: 4},
				impl.Field{Division: d, Line: l, First: 4, Second: 1}, impl.Field{Division: d, Line: l, First: 9, Second: 8})
		}
	}
	return fields
}

// noFields returns invalid fields; most of them have a single wrong part.
func noFields() []impl.Field {
	fields := []impl.Field{
		{},
		{Line: 1, First: 1}, {Line: 4, First: 9}, {Line: -1, First: 1}, {Line: 5, First: 1}, {First: 1, Second: 4},
		{First: 1, Second: 1}, {First: 1, Second: -1}, {First: 1, Second: 10}, {Line: 2, First: 1, Second: 4},
		{Second: 3}, {Line: 2}, {Division: 1}, {Division: 1, Line: 2}, {Division: 1, First: 1}, {Division: 7, Second: 1},
	}
	wrong := []int{-1, math.MinInt, math.MaxInt, 1 << 8, 1 << 32, -1 << 32}
	for _, x := range wrong {
		fields = append(fields, impl.Field{Division: x, First: 1, Second: 4}, impl.Field{Division: x, First: 1},
			impl.Field{Division: 4, Line: x, First: 1, Second: 4}, impl.Field{Line: x, First: 1})
	}
	for d := 1; d <= 7; d++ {
		for l := range 5 {
			for _, x := range noTinctures() {
				fields = append(fields, impl.Field{Division: d, Line: l, First: x, Second: 4},
					impl.Field{Division: d, Line: l, First: 1, Second: x}, impl.Field{Division: d, Line: l, First: x, Second: x})
			}
			for x := 1; x <= 9; x++ {
				fields = append(fields, impl.Field{Division: d, Line: l, First: x, Second: x})
			}
		}
		fields = append(fields, impl.Field{Division: d, Line: -1, First: 1, Second: 4},
			impl.Field{Division: d, Line: 5, First: 1, Second: 4})
	}
	for l := range 5 {
		fields = append(fields, impl.Field{Division: 8, Line: l, First: 1, Second: 4},
			impl.Field{Division: -1, Line: l, First: 1, Second: 4})
	}
	for _, x := range noTinctures() {
		fields = append(fields, impl.Field{First: x}, impl.Field{First: x, Second: 4})
		if x != 0 {
			fields = append(fields, impl.Field{First: 1, Second: x}, impl.Field{Line: x, First: 1, Second: 0})
		}
	}
	return fields
}

func TestFieldConstants(t *testing.T) {
	divisions := []int{
		impl.DivNone, impl.DivPale, impl.DivFess, impl.DivBend, impl.DivQuarter, impl.DivSaltire, impl.DivPaly, impl.DivBarry,
	}
	lines := []int{impl.LineStraight, impl.LineEngrailed, impl.LineWavy, impl.LineEmbattled, impl.LineIndented}
	if !slices.Equal(divisions, []int{0, 1, 2, 3, 4, 5, 6, 7}) || !slices.Equal(lines, []int{0, 1, 2, 3, 4}) {
		t.Error(divisions, lines)
	}
}

// TestIsValidFieldExhaustively compares all fields whose parts are in or near the constants
// with the list of the valid ones.
func TestIsValidFieldExhaustively(t *testing.T) {
	valid := everyField()
	if len(valid) != 9+9*8*7*5 {
		t.Fatal(len(valid))
	}
	for d := -2; d <= 10; d++ {
		for l := -2; l <= 7; l++ {
			for first := -2; first <= 12; first++ {
				for second := -2; second <= 12; second++ {
					f := impl.Field{Division: d, Line: l, First: first, Second: second}
					_, want := valid[f]
					if impl.IsValidField(f) != want {
						t.Errorf("IsValidField(%v) = %v", f, !want)
					}
				}
			}
		}
	}
}

func TestFieldTextExamples(t *testing.T) {
	for want, f := range map[string]impl.Field{
		"gold":                             {First: impl.Gold},
		"vair":                             {First: impl.Vair},
		"per pale wavy gold and blue":      {Division: impl.DivPale, Line: impl.LineWavy, First: impl.Gold, Second: impl.Blue},
		"per pale gold and blue":           {Division: impl.DivPale, First: impl.Gold, Second: impl.Blue},
		"per fess embattled red and vair":  {Division: impl.DivFess, Line: impl.LineEmbattled, First: impl.Red, Second: impl.Vair},
		"per bend black and silver":        {Division: impl.DivBend, First: impl.Black, Second: impl.Silver},
		"quarterly indented green and red": {Division: impl.DivQuarter, Line: impl.LineIndented, First: impl.Green, Second: impl.Red},
		"per saltire engrailed purple and ermine": {
			Division: impl.DivSaltire, Line: impl.LineEngrailed, First: impl.Purple, Second: impl.Ermine,
		},
		"paly red and gold":         {Division: impl.DivPaly, First: impl.Red, Second: impl.Gold},
		"barry wavy blue and black": {Division: impl.DivBarry, Line: impl.LineWavy, First: impl.Blue, Second: impl.Black},
	} {
		if text, ok := impl.FieldText(f); !ok || text != want {
			t.Errorf("FieldText(%v) = %q, %v", f, text, ok)
		}
		if g, ok := impl.ParseField(want); !ok || g != f {
			t.Errorf("ParseField(%q) = %v, %v", want, g, ok)
		}
	}
}

func TestFieldTextsRoundTrip(t *testing.T) {
	texts := map[string]impl.Field{}
	for f, want := range everyField() {
		text, ok := impl.FieldText(f)
		if !ok || text != want {
			t.Errorf("FieldText(%v) = %q, %v", f, text, ok)
		}
		if g, ok := impl.ParseField(want); !ok || g != f {
			t.Errorf("ParseField(%q) = %v, %v", want, g, ok)
		}
		if g, twice := texts[text]; twice {
			t.Errorf("%v and %v have the text %q", f, g, text)
		}
		texts[text] = f
	}
}

// rejectField checks that a text is the text of no field.
func rejectField(t *testing.T, s string) {
	t.Helper()
	if f, ok := impl.ParseField(s); ok || f != (impl.Field{}) {
		t.Errorf("ParseField(%.60q) = %v, %v", s, f, ok)
	}
}

func TestParseFieldRejects(t *testing.T) {
	rejected := []string{
		"", " ", "  ", "and", " and ", "gold and", "gold and ", " and gold", "and gold", "gold and blue", "gold blue",
		"gold and gold", "wavy", "wavy gold", "wavy gold and blue", "straight gold", "plain", "plain gold", "per gold",
		"per pale", "per pale ", "per pale wavy", "per pale wavy ", "per pale gold", "per pale gold and", "per pale gold and ",
		"per pale gold blue", "per pale and blue", "per pale  and blue", "per pale and", "per pale  and ",
		"per pale straight gold and blue", "barry straight red and gold", "per pale 0 gold and blue",
		"pale gold and blue", "per gold and blue", "per quarterly gold and blue", "per paly gold and blue",
		"per barry gold and blue", "per wavy gold and blue", "fess gold and blue", "saltire gold and blue",
		"quarter gold and blue", "per quarter gold and blue", "paly wavy wavy gold and blue",
		"paly wavy indented gold and blue", "paly barry gold and blue", "paly paly gold and blue",
		"wavy per pale gold and blue", "per wavy pale gold and blue", "per pale gold wavy and blue",
		"per pale gold and wavy blue", "per pale gold and blue wavy", "per pale gold and blue and red",
		"per pale gold and blue and", "per pale gold and and blue", "per pale gold, and blue", "per pale gold AND blue",
		"per pale of gold and blue", "per pale gold or blue", "per pale gold & blue", "per pale gold and 4",
		"1", "gold\x00", "per pale\x00gold and blue", "per pale\tgold and blue", "per\u00a0pale gold and blue",
		"per pale gold\nand blue", "Per pale gold and blue", "PER PALE GOLD AND BLUE", "perpale gold and blue",
		"per pale goldandblue", "per pale gold andblue", "per pale goldand blue", "per pale wavygold and blue",
		"per palewavy gold and blue", "per pale wave gold and blue", "per pale engraled gold and blue",
		strings.Repeat("per pale ", 10000), strings.Repeat("gold and ", 10000) + "blue",
		"per pale gold" + strings.Repeat(" ", 10000) + "and blue",
	}
	for _, s := range append(rejected, oddStrings()...) {
		rejectField(t, s)
	}
	for _, x := range wordsOfTinctures {
		for _, d := range wordsOfDivisions {
			rejectField(t, d+" "+x+" and "+x)
			rejectField(t, d+" "+x)
		}
		for _, l := range wordsOfLines {
			rejectField(t, l+" "+x)
			rejectField(t, "per fess "+l+" "+x+" and "+x)
		}
	}
}

// changedWords returns a text with each of some words put in and in place of another one
// everywhere, and without one or several words that follow each other.
func changedWords(text string, extra []string) []string {
	var texts []string
	words := strings.Split(text, " ")
	for i := range len(words) + 1 {
		for _, word := range extra {
			texts = append(texts, strings.Join(slices.Insert(slices.Clone(words), i, word), " "))
			if i < len(words) {
				texts = append(texts, strings.Join(slices.Replace(slices.Clone(words), i, i+1, word), " "))
			}
		}
		for j := i + 1; j <= len(words); j++ {
			texts = append(texts, strings.Join(slices.Delete(slices.Clone(words), i, j), " "))
		}
	}
	return texts
}

// TestParseFieldIsInverse changes every text by a word or a byte, and accepts the changed one
// only if it is the text of a field.
func TestParseFieldIsInverse(t *testing.T) {
	fieldOf := map[string]impl.Field{}
	for f, text := range everyField() {
		fieldOf[text] = f
	}
	check := func(s string) {
		want, known := fieldOf[s]
		if f, ok := impl.ParseField(s); ok != known || f != want {
			t.Errorf("ParseField(%q) = %v, %v", s, f, ok)
		}
	}
	extra := []string{"", "per", "pale", "quarterly", "paly", "wavy", "straight", "and", "gold", "blue", "none"}
	for _, f := range someFields() {
		text, _ := impl.FieldText(f)
		for i := range len(text) + 1 {
			check(text[:i])
			check(text[i:])
			check(text[:i] + " " + text[i:])
			check(text[:i] + "s" + text[i:])
			if i < len(text) {
				check(text[:i] + text[i+1:])
			}
		}
		for _, changed := range changedWords(text, extra) {
			check(changed)
		}
	}
}

// TestParseFieldOverWords reads all texts of up to six of some words.
func TestParseFieldOverWords(t *testing.T) {
	fieldOf := map[string]impl.Field{}
	for f, text := range everyField() {
		fieldOf[text] = f
	}
	words := []string{"per", "pale", "paly", "wavy", "and", "gold", "red"}
	texts := []string{""}
	found := 0
	for range 6 {
		var longer []string
		for _, text := range texts {
			for _, word := range words {
				longer = append(longer, strings.TrimPrefix(text+" "+word, " "))
			}
		}
		texts = longer
		for _, text := range texts {
			want, known := fieldOf[text]
			f, ok := impl.ParseField(text)
			if ok != known || f != want {
				t.Errorf("ParseField(%q) = %v, %v", text, f, ok)
			}
			if ok {
				found++
			}
		}
	}
	// gold, red, and for both orders of them: per pale and paly, straight and wavy.
	if found != 2+2*2*2 {
		t.Error("found", found)
	}
}

func TestFieldTinctures(t *testing.T) {
	for f := range everyField() {
		want := []int{f.First, f.Second}
		if f.Division == impl.DivNone {
			want = want[:1]
		}
		if tinctures, ok := impl.FieldTinctures(f); !ok || !slices.Equal(tinctures, want) {
			t.Errorf("FieldTinctures(%v) = %v, %v", f, tinctures, ok)
		}
	}
}

func TestSwapField(t *testing.T) {
	for f := range everyField() {
		want := impl.Field{Division: f.Division, Line: f.Line, First: f.Second, Second: f.First}
		if f.Division == impl.DivNone {
			want = f
		}
		g, ok := impl.SwapField(f)
		if !ok || g != want {
			t.Errorf("SwapField(%v) = %v, %v", f, g, ok)
		}
		if back, ok := impl.SwapField(g); !ok || back != f {
			t.Errorf("SwapField(%v) = %v, %v", g, back, ok)
		}
	}
}

func TestPlainField(t *testing.T) {
	for x := 1; x <= 9; x++ {
		f, ok := impl.PlainField(x)
		if !ok || f != (impl.Field{Division: impl.DivNone, Line: impl.LineStraight, First: x, Second: 0}) {
			t.Errorf("PlainField(%d) = %v, %v", x, f, ok)
		}
		if text, ok := impl.FieldText(f); !ok || text != wordsOfTinctures[x-1] {
			t.Errorf("the text of the plain field of %d is %q, %v", x, text, ok)
		}
	}
	for _, x := range noTinctures() {
		if f, ok := impl.PlainField(x); ok || f != (impl.Field{}) {
			t.Errorf("PlainField(%d) = %v, %v", x, f, ok)
		}
	}
}

// TestFieldParts takes f for First and s for Second.
func TestFieldParts(t *testing.T) {
	patterns := []string{"f", "fs", "fs", "fs", "fssf", "fssf", "fsfsfs", "fsfsfs"}
	for f := range everyField() {
		var want []int
		for _, c := range patterns[f.Division] {
			want = append(want, map[rune]int{'f': f.First, 's': f.Second}[c])
		}
		if parts, ok := impl.FieldParts(f); !ok || !slices.Equal(parts, want) {
			t.Errorf("FieldParts(%v) = %v, %v", f, parts, ok)
		}
	}
}

func TestFieldDifferencesExamples(t *testing.T) {
	base := impl.Field{Division: impl.DivPale, Line: impl.LineWavy, First: impl.Gold, Second: impl.Blue}
	straight := impl.Field{Division: impl.DivPale, First: impl.Gold, Second: impl.Blue}
	gold := impl.Field{First: impl.Gold}
	for _, c := range []struct {
		a, b impl.Field
		want int
	}{
		{base, base, 0}, {gold, gold, 0}, {straight, straight, 0},
		{base, impl.Field{Division: 2, Line: 2, First: 1, Second: 4}, 1},
		{base, impl.Field{Division: 1, Line: 1, First: 1, Second: 4}, 1},
		{base, straight, 1},
		{base, impl.Field{Division: 1, Line: 2, First: 2, Second: 4}, 1},
		{base, impl.Field{Division: 1, Line: 2, First: 1, Second: 3}, 1},
		{base, impl.Field{Division: 1, Line: 2, First: 4, Second: 1}, 1},
		{base, impl.Field{Division: 1, Line: 2, First: 8, Second: 9}, 1},
		{base, impl.Field{Division: 6, Line: 0, First: 1, Second: 4}, 2},
		{base, impl.Field{Division: 6, Line: 2, First: 4, Second: 1}, 2},
		{base, impl.Field{Division: 1, Line: 3, First: 1, Second: 9}, 2},
		{base, impl.Field{Division: 7, Line: 4, First: 3, Second: 2}, 3},
		{base, gold, 3}, {straight, gold, 2}, {straight, impl.Field{First: impl.Vair}, 2},
		{gold, impl.Field{First: impl.Silver}, 1}, {gold, impl.Field{First: impl.Vair}, 1},
	} {
		if n, ok := impl.FieldDifferences(c.a, c.b); !ok || n != c.want {
			t.Errorf("FieldDifferences(%v, %v) = %d, %v", c.a, c.b, n, ok)
		}
		if n, ok := impl.FieldDifferences(c.b, c.a); !ok || n != c.want {
			t.Errorf("FieldDifferences(%v, %v) = %d, %v", c.b, c.a, n, ok)
		}
	}
}

// TestEveryPairOfFields compares fields by their parts: since plain fields have the Second 0,
// lists of tinctures differ exactly if First or Second does.
func TestEveryPairOfFields(t *testing.T) {
	some := someFields()
	for f := range everyField() {
		for _, g := range some {
			want := 0
			if f.Division != g.Division {
				want++
			}
			if f.Line != g.Line {
				want++
			}
			if f.First != g.First || f.Second != g.Second {
				want++
			}
			if n, ok := impl.FieldDifferences(f, g); !ok || n != want {
				t.Fatalf("FieldDifferences(%v, %v) = %d, %v", f, g, n, ok)
			}
			same := f.First == g.First && f.Second == g.Second || f.First == g.Second && f.Second == g.First
			if got, ok := impl.SameParts(f, g); !ok || got != same {
				t.Fatalf("SameParts(%v, %v) = %v, %v", f, g, got, ok)
			}
			if got, ok := impl.SameParts(g, f); !ok || got != same {
				t.Fatalf("SameParts(%v, %v) = %v, %v", g, f, got, ok)
			}
		}
	}
}

func TestSamePartsExamples(t *testing.T) {
	pale := impl.Field{Division: impl.DivPale, Line: impl.LineWavy, First: impl.Gold, Second: impl.Blue}
	for _, c := range []struct {
		a, b impl.Field
		want bool
	}{
		{pale, pale, true},
		{pale, impl.Field{Division: impl.DivPale, Line: impl.LineWavy, First: impl.Blue, Second: impl.Gold}, true},
		{pale, impl.Field{Division: impl.DivBarry, First: impl.Blue, Second: impl.Gold}, true},
		{pale, impl.Field{Division: impl.DivBarry, First: impl.Blue, Second: impl.Red}, false},
		{pale, impl.Field{Division: impl.DivPale, Line: impl.LineWavy, First: impl.Gold, Second: impl.Red}, false},
		{pale, impl.Field{First: impl.Gold}, false},
		{pale, impl.Field{First: impl.Blue}, false},
		{impl.Field{First: impl.Gold}, impl.Field{First: impl.Gold}, true},
		{impl.Field{First: impl.Gold}, impl.Field{First: impl.Silver}, false},
	} {
		if same, ok := impl.SameParts(c.a, c.b); !ok || same != c.want {
			t.Errorf("SameParts(%v, %v) = %v, %v", c.a, c.b, same, ok)
		}
	}
}

func TestInvalidFields(t *testing.T) {
	for _, f := range noFields() {
		if impl.IsValidField(f) {
			t.Errorf("%v is valid", f)
		}
		text, okText := impl.FieldText(f)
		tinctures, okTinctures := impl.FieldTinctures(f)
		swapped, okSwapped := impl.SwapField(f)
		parts, okParts := impl.FieldParts(f)
		if okText || okTinctures || okSwapped || okParts {
			t.Errorf("%v is accepted: %v %v %v %v", f, okText, okTinctures, okSwapped, okParts)
		}
		if text != "" || len(tinctures) != 0 || swapped != (impl.Field{}) || len(parts) != 0 {
			t.Errorf("%v: values beside false: %q %v %v %v", f, text, tinctures, swapped, parts)
		}
	}
}

func TestPairsWithInvalidFields(t *testing.T) {
	invalid := noFields()
	for _, f := range invalid {
		others := append(someFields()[:10], f, invalid[0], invalid[len(invalid)/2])
		for _, g := range others {
			for _, pair := range [][2]impl.Field{{f, g}, {g, f}} {
				if n, ok := impl.FieldDifferences(pair[0], pair[1]); ok || n != 0 {
					t.Errorf("FieldDifferences(%v) = %d, %v", pair, n, ok)
				}
				if same, ok := impl.SameParts(pair[0], pair[1]); ok || same {
					t.Errorf("SameParts(%v) = %v, %v", pair, same, ok)
				}
			}
		}
	}
}

func TestFieldListsAreNewMemory(t *testing.T) {
	for _, f := range someFields() {
		tinctures, _ := impl.FieldTinctures(f)
		parts, _ := impl.FieldParts(f)
		keptTinctures, keptParts := slices.Clone(tinctures), slices.Clone(parts)
		for i := range tinctures {
			tinctures[i] = 77
		}
		if !slices.Equal(parts, keptParts) {
			t.Errorf("%v: the parts share memory with the tinctures", f)
		}
		for i := range parts {
			parts[i] = 77
		}
		tincturesAgain, _ := impl.FieldTinctures(f)
		partsAgain, _ := impl.FieldParts(f)
		if !slices.Equal(tincturesAgain, keptTinctures) || !slices.Equal(partsAgain, keptParts) {
			t.Errorf("%v: %v and %v after a change", f, tincturesAgain, partsAgain)
		}
	}
}
