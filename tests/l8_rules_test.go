package tests

import (
	"slices"
	"strings"
	"testing"

	"loop.example/g00884/impl"
)

// startsOfFindings holds what the document writes before the upper tincture at the places 1 to 3
// in order.
var startsOfFindings = []string{"The ordinary is ", "The charges on the ordinary are ", "The charges around it are "}

// clashWithAll reports whether a tincture clashes with all of others, by the table of contrasts.
func clashWithAll(x int, others ...int) bool {
	for _, y := range others {
		if contrasts[x-1][y-1] != '0' {
			return false
		}
	}
	return true
}

// findingsOf returns the findings for valid arms as the document says it.
func findingsOf(a impl.Arms) []impl.Finding {
	var findings []impl.Finding
	field := tincturesOfLayers(a)[0]
	if a.Ordinary != 0 && clashWithAll(a.Tincture, field...) {
		findings = append(findings, impl.Finding{Place: 1, Upper: a.Tincture, Lower: field[0]})
	}
	if a.On.Count != 0 && clashWithAll(a.On.Tincture, a.Tincture) {
		findings = append(findings, impl.Finding{Place: 2, Upper: a.On.Tincture, Lower: a.Tincture})
	}
	if a.Around.Count != 0 && clashWithAll(a.Around.Tincture, field...) {
		findings = append(findings, impl.Finding{Place: 3, Upper: a.Around.Tincture, Lower: field[0]})
	}
	return findings
}

// everyFinding returns the valid findings with the texts that the document gives them.
func everyFinding() map[impl.Finding]string {
	findings := map[impl.Finding]string{}
	for i, start := range startsOfFindings {
		for u, upper := range wordsOfTinctures {
			for l, lower := range wordsOfTinctures {
				if clashWithAll(u+1, l+1) {
					findings[impl.Finding{Place: i + 1, Upper: u + 1, Lower: l + 1}] = start + upper + " on " + lower + "."
				}
			}
		}
	}
	return findings
}

// findingTexts returns the texts of findings.
func findingTexts(findings []impl.Finding) []string {
	var texts []string
	for _, x := range findings {
		text, _ := impl.FindingText(x)
		texts = append(texts, text)
	}
	return texts
}

// tincturesFor returns all lists of n tinctures in ascending order.
func tincturesFor(n int) [][]int {
	lists := [][]int{nil}
	for range n {
		var longer [][]int
		for _, list := range lists {
			for x := 1; x <= 9; x++ {
				longer = append(longer, append(slices.Clone(list), x))
			}
		}
		lists = longer
	}
	return lists
}

// fieldsOfRules returns plain fields of every tincture and divided fields of every pair of them.
func fieldsOfRules() []impl.Field {
	var fields []impl.Field
	for x := 1; x <= 9; x++ {
		fields = append(fields, impl.Field{First: x})
		for y := 1; y <= 9; y++ {
			if x != y {
				fields = append(fields, impl.Field{Division: 1 + (x+2*y)%7, Line: (x + y) % 5, First: x, Second: y})
			}
		}
	}
	return fields
}

// shapesOfRules returns arms on a field with every combination of layers above it, with the
// ordinaries fess and chief.
func shapesOfRules(f impl.Field) []impl.Arms {
	shapes := []impl.Arms{{Field: f}, {Field: f, Around: oneEagle}}
	for i, ordinary := range []int{impl.OrdFess, impl.OrdChief} {
		a := impl.Arms{Field: f, Ordinary: ordinary, Line: 3 * i, Tincture: impl.Gold}
		for _, groups := range [][2]impl.Group{{}, {threeRoses, {}}, {{}, twoLions}, {threeRoses, twoLions}} {
			a.On, a.Around = groups[0], groups[1]
			shapes = append(shapes, a)
		}
	}
	return shapes
}

// everyTincturing calls visit with arms with every combination of layers and tinctures above
// some fields.
func everyTincturing(fields []impl.Field, visit func(impl.Arms)) {
	lists := [][][]int{tincturesFor(0), tincturesFor(1), tincturesFor(2), tincturesFor(3)}
	for _, f := range fields {
		for _, shape := range shapesOfRules(f) {
			for _, tinctures := range lists[len(tincturesOfLayers(shape))-1] {
				visit(withTinctures(shape, tinctures))
			}
		}
	}
}

func TestPlaceConstants(t *testing.T) {
	places := []int{impl.PlaceOrdinary, impl.PlaceOn, impl.PlaceAround}
	if !slices.Equal(places, []int{1, 2, 3}) {
		t.Error(places)
	}
}

func TestRuleFindingsExamples(t *testing.T) {
	for _, c := range []struct {
		arms  string
		texts []string
	}{
		// Without a layer above the field, and without an ordinary.
		{"blue", nil}, {"per pale red and blue", nil}, {"per pale gold and silver", nil},
		{"blue, a star gold", nil}, {"blue, a star vair", nil}, {"vair, a star blue", nil}, {"vair, a star ermine", nil},
		{"blue, a star black", []string{"The charges around it are black on blue."}},
		{"blue, a star blue", []string{"The charges around it are blue on blue."}},
		{"gold, six lions rampant silver", []string{"The charges around it are silver on gold."}},
		{"ermine, a star ermine", []string{"The charges around it are ermine on ermine."}},
		{"per pale red and gold, a star red", nil}, {"per pale red and gold, a star gold", nil}, {"per pale red and gold, a star silver", nil},
		{"per pale red and ermine, a star ermine", nil}, {"per pale red and ermine, a star green", nil}, {"paly ermine and vair, a star vair", nil},
		{"per pale red and blue, a star green", []string{"The charges around it are green on red."}},
		{"per pale red and blue, a star blue", []string{"The charges around it are blue on red."}},
		{"per pale blue and red, a star blue", []string{"The charges around it are blue on blue."}},
		{"quarterly gold and silver, a star silver", []string{"The charges around it are silver on gold."}},
		{"quarterly gold and silver, a star red", nil}, {"quarterly gold and silver, a star vair", nil},
		// An ordinary, on fields with one tincture, with two, and with two that clash.
		{"blue, a bend gold", nil}, {"blue, a bend ermine", nil}, {"ermine, a bend vair", nil}, {"silver, a cross green", nil},
		{"blue, a bend red", []string{"The ordinary is red on blue."}}, {"gold, a chief gold", []string{"The ordinary is gold on gold."}},
		{"vair, a pale vair", []string{"The ordinary is vair on vair."}},
		{"per fess gold and red, a bend silver", nil}, {"per fess gold and red, a bend blue", nil}, {"per fess gold and vair, a bend vair", nil},
		{"per fess gold and silver, a bend silver", []string{"The ordinary is silver on gold."}},
		{"per fess silver and gold, a bend silver", []string{"The ordinary is silver on silver."}},
		{"barry black and purple, a chief indented green", []string{"The ordinary is green on black."}},
		{"barry black and purple, a chief indented gold", nil},
		// Charges on an ordinary: the field does not count, with one tincture and with two.
		{"blue, a bend gold charged with a star red", nil}, {"blue, a bend gold charged with a star blue", nil},
		{"blue, a bend gold charged with a star silver", []string{"The charges on the ordinary are silver on gold."}},
		{"blue, a bend gold charged with a star gold", []string{"The charges on the ordinary are gold on gold."}},
		{"blue, a bend ermine charged with a star ermine", []string{"The charges on the ordinary are ermine on ermine."}},
		{"blue, a bend ermine charged with a star vair", nil}, {"per pale red and gold, a fess gold charged with a star blue", nil},
		{"per pale red and gold, a fess gold charged with a star silver", []string{"The charges on the ordinary are silver on gold."}},
		{"blue, a bend red charged with a star gold", []string{"The ordinary is red on blue."}},
		{"blue, a bend red charged with a star green", []string{"The ordinary is red on blue.", "The charges on the ordinary are green on red."}},
		// Charges around an ordinary: the ordinary does not count.
		{"blue, a bend gold between a star gold", nil}, {"blue, a bend gold between a star silver", nil}, {"blue, a chief gold above a star gold", nil},
		{"blue, a bend gold between a star red", []string{"The charges around it are red on blue."}},
		{"blue, a bend red between a star green", []string{"The ordinary is red on blue.", "The charges around it are green on blue."}},
		{"blue, a chief red above a star gold", []string{"The ordinary is red on blue."}},
		// All three layers.
		{fullText, nil},
		{"blue, a bend gold charged with a star silver between two keys red", []string{"The charges on the ordinary are silver on gold.", "The charges around it are red on blue."}},
		{"blue, a bend red charged with a star green between two keys gold", []string{"The ordinary is red on blue.", "The charges on the ordinary are green on red."}},
		{"blue, a bend red charged with a star green between two keys black", []string{
			"The ordinary is red on blue.", "The charges on the ordinary are green on red.", "The charges around it are black on blue.",
		}},
		{"per saltire silver and gold, a chief gold charged with a star silver above two keys gold", []string{
			"The ordinary is gold on silver.", "The charges on the ordinary are silver on gold.", "The charges around it are gold on silver.",
		}},
		{"per saltire silver and red, a chief gold charged with a star silver above two keys gold", []string{"The charges on the ordinary are silver on gold."}},
	} {
		a := armsOf(t, c.arms)
		findings, ok := impl.RuleFindings(a)
		if !ok || !slices.Equal(findingTexts(findings), c.texts) {
			t.Errorf("RuleFindings(%q) = %v, %v instead of %q", c.arms, findings, ok, c.texts)
		}
		if keeps, ok := impl.KeepsRules(a); !ok || keeps != (len(c.texts) == 0) {
			t.Errorf("KeepsRules(%q) = %v, %v", c.arms, keeps, ok)
		}
	}
}

// TestFindingsOfEveryTincturing compares the findings for arms with all tinctures on all fields
// with what the document says.
func TestFindingsOfEveryTincturing(t *testing.T) {
	numbers := map[int]int{}
	valid := everyFinding()
	everyTincturing(fieldsOfRules(), func(a impl.Arms) {
		want := findingsOf(a)
		findings, ok := impl.RuleFindings(a)
		if !ok || !slices.Equal(findings, want) {
			t.Fatalf("RuleFindings(%v) = %v, %v instead of %v", a, findings, ok, want)
		}
		for _, x := range findings {
			if valid[x] == "" {
				t.Fatalf("RuleFindings(%v) = %v", a, findings)
			}
		}
		if keeps, ok := impl.KeepsRules(a); !ok || keeps != (len(want) == 0) {
			t.Fatalf("KeepsRules(%v) = %v, %v", a, keeps, ok)
		}
		if len(want) > 0 && want[0].Place == 1 && a.Ordinary == impl.OrdChief {
			want = want[1:]
		}
		if lenient, ok := impl.LenientFindings(a); !ok || !slices.Equal(lenient, want) {
			t.Fatalf("LenientFindings(%v) = %v, %v instead of %v", a, lenient, ok, want)
		}
		numbers[len(findings)]++
	})
	if len(numbers) != 4 || numbers[0] == 0 || numbers[1] == 0 || numbers[2] == 0 || numbers[3] == 0 {
		t.Error("numbers of findings:", numbers)
	}
}

// TestFindingsOfSomeArms looks at every ordinary and every line: they change nothing but the
// leniency for a chief.
func TestFindingsOfSomeArms(t *testing.T) {
	for _, a := range someArms() {
		want := findingsOf(a)
		if findings, ok := impl.RuleFindings(a); !ok || !slices.Equal(findings, want) {
			t.Errorf("RuleFindings(%v) = %v, %v instead of %v", a, findings, ok, want)
		}
		if keeps, ok := impl.KeepsRules(a); !ok || keeps != (len(want) == 0) {
			t.Errorf("KeepsRules(%v) = %v, %v", a, keeps, ok)
		}
		want = slices.DeleteFunc(want, func(x impl.Finding) bool { return x.Place == 1 && a.Ordinary == 7 })
		if findings, ok := impl.LenientFindings(a); !ok || !slices.Equal(findings, want) {
			t.Errorf("LenientFindings(%v) = %v, %v instead of %v", a, findings, ok, want)
		}
	}
}

func TestLenientFindings(t *testing.T) {
	const ordinary, on, around = "The ordinary is red on blue.", "The charges on the ordinary are green on red.", "The charges around it are black on blue."
	for o, word := range wordsOfOrdinaries {
		link := " between "
		first := []string{ordinary}
		if o+1 == impl.OrdChief {
			link, first = " above ", nil
		}
		start := "blue, a " + word
		for s, want := range map[string][]string{
			" red": first, " wavy red": first, " gold": nil,
			" red charged with a star gold": first, " red charged with a star green": append(slices.Clone(first), on),
			" red" + link + "a star gold": first, " red" + link + "a star black": append(slices.Clone(first), around),
			" gold" + link + "a star black": {around}, " gold charged with a star red" + link + "a star black": {around},
			" red charged with a star green" + link + "a star black":        append(slices.Clone(first), on, around),
			" gold charged with a star silver" + link + "a star gold":       {"The charges on the ordinary are silver on gold."},
			" indented red charged with a star green" + link + "a key vair": append(slices.Clone(first), on),
		} {
			findings, ok := impl.LenientFindings(armsOf(t, start+s))
			if !ok || !slices.Equal(findingTexts(findings), want) {
				t.Errorf("LenientFindings(%q) = %v, %v instead of %q", start+s, findings, ok, want)
			}
		}
	}
	for s, want := range map[string][]string{"blue": nil, "blue, a star gold": nil, "blue, a star black": {around}} {
		findings, ok := impl.LenientFindings(armsOf(t, s))
		if !ok || !slices.Equal(findingTexts(findings), want) {
			t.Errorf("LenientFindings(%q) = %v, %v instead of %q", s, findings, ok, want)
		}
	}
}

func TestFindingTextExamples(t *testing.T) {
	for want, x := range map[string]impl.Finding{
		"The ordinary is red on blue.":                     {Place: impl.PlaceOrdinary, Upper: impl.Red, Lower: impl.Blue},
		"The ordinary is gold on silver.":                  {Place: impl.PlaceOrdinary, Upper: impl.Gold, Lower: impl.Silver},
		"The ordinary is ermine on ermine.":                {Place: impl.PlaceOrdinary, Upper: impl.Ermine, Lower: impl.Ermine},
		"The charges on the ordinary are black on purple.": {Place: impl.PlaceOn, Upper: impl.Black, Lower: impl.Purple},
		"The charges on the ordinary are silver on gold.":  {Place: impl.PlaceOn, Upper: impl.Silver, Lower: impl.Gold},
		"The charges on the ordinary are vair on vair.":    {Place: impl.PlaceOn, Upper: impl.Vair, Lower: impl.Vair},
		"The charges around it are green on green.":        {Place: impl.PlaceAround, Upper: impl.Green, Lower: impl.Green},
		"The charges around it are blue on red.":           {Place: impl.PlaceAround, Upper: impl.Blue, Lower: impl.Red},
		"The charges around it are vair on vair.":          {Place: impl.PlaceAround, Upper: impl.Vair, Lower: impl.Vair},
		"The charges around it are ermine on ermine.":      {Place: impl.PlaceAround, Upper: impl.Ermine, Lower: impl.Ermine},
	} {
		if text, ok := impl.FindingText(x); !ok || text != want {
			t.Errorf("FindingText(%v) = %q, %v", x, text, ok)
		}
		if y, ok := impl.ParseFinding(want); !ok || y != x {
			t.Errorf("ParseFinding(%q) = %v, %v", want, y, ok)
		}
	}
}

func TestFindingTextsRoundTrip(t *testing.T) {
	findings := everyFinding()
	// At each of three places: two metals, five colors, and two furs that clash with themselves.
	if len(findings) != 3*(2*2+5*5+2) {
		t.Fatal(len(findings))
	}
	for x, want := range findings {
		if text, ok := impl.FindingText(x); !ok || text != want {
			t.Errorf("FindingText(%v) = %q, %v", x, text, ok)
		}
		if y, ok := impl.ParseFinding(want); !ok || y != x {
			t.Errorf("ParseFinding(%q) = %v, %v", want, y, ok)
		}
	}
}

// TestInvalidFindings takes places and tinctures in and near what is allowed and far from it.
func TestInvalidFindings(t *testing.T) {
	valid := everyFinding()
	reject := func(x impl.Finding) {
		if _, known := valid[x]; known {
			return
		}
		if text, ok := impl.FindingText(x); ok || text != "" {
			t.Errorf("FindingText(%v) = %q, %v", x, text, ok)
		}
	}
	for place := -2; place <= 6; place++ {
		for upper := -2; upper <= 12; upper++ {
			for lower := -2; lower <= 12; lower++ {
				reject(impl.Finding{Place: place, Upper: upper, Lower: lower})
			}
		}
	}
	for _, x := range append(farNumbers(), noTinctures()...) {
		for y := range 11 {
			for _, z := range []int{0, 1, y, x} {
				reject(impl.Finding{Place: x, Upper: y, Lower: z})
				reject(impl.Finding{Place: x, Upper: z, Lower: y})
				for place := range 5 {
					reject(impl.Finding{Place: place, Upper: x, Lower: z})
					reject(impl.Finding{Place: place, Upper: z, Lower: x})
				}
			}
		}
	}
}

// rejectFinding checks that a text is the text of no finding.
func rejectFinding(t *testing.T, s string) {
	t.Helper()
	if x, ok := impl.ParseFinding(s); ok || x != (impl.Finding{}) {
		t.Errorf("ParseFinding(%.80q) = %v, %v", s, x, ok)
	}
}

func TestParseFindingRejects(t *testing.T) {
	rejected := []string{
		"", " ", ".", " .", " on ", " on .", "on", "red on blue", "red on blue.", "is red on blue.", "ordinary is red on blue.",
		"The", "The ordinary", "The ordinary is", "The ordinary is ", "The ordinary is.", "The ordinary is .", "The ordinary is on.",
		"The ordinary is  on .", "The ordinary is on blue.", "The ordinary is  on blue.", "The ordinary is red on.",
		"The ordinary is red on .", "The ordinary is red.", "The ordinary is red blue.", "The ordinary is red on blue",
		"The ordinary is red on blue ", "The ordinary is red on blue .", "The ordinary is red on blue..", "The ordinary is red on blue. ",
		"The ordinary is red on blue.\n", " The ordinary is red on blue.", "The  ordinary is red on blue.", "The ordinary  is red on blue.",
		"The ordinary is  red on blue.", "The ordinary is red  on blue.", "The ordinary is red on  blue.", "the ordinary is red on blue.",
		"The Ordinary is red on blue.", "The ordinary is Red on blue.", "The ordinary is red on Blue.", "The ordinary is red ON blue.",
		"The ordinary are red on blue.", "The ordinary was red on blue.", "The ordinary red on blue.", "The charges are red on blue.",
		"The charges on the ordinary is red on blue.", "The charges on the ordinary red on blue.", "The charges on it are red on blue.",
		"The charges on ordinary are red on blue.", "The charges on the ordinary are", "The charges on the ordinary are ",
		"The charges around it is red on blue.", "The charges around the ordinary are red on blue.", "The charges around are red on blue.",
		"The charges around it are", "The charges around it are red.", "The charges around it are red on.", "The field is red on blue.",
		"The ordinary is gold on red.", "The ordinary is red on gold.", "The ordinary is ermine on vair.", "The ordinary is vair on ermine.",
		"The charges on the ordinary are red on silver.", "The charges on the ordinary are ermine on silver.",
		"The charges around it are vair on blue.", "The charges around it are gold on black.", "The charges around it are blue on ermine.",
		"The ordinary is white on gold.", "The ordinary is gold on white.", "The ordinary is 3 on 4.", "The ordinary is red on blue on red.",
		"The ordinary is red on red on red.", "The ordinary is red and blue.", "The ordinary is red over blue.", "The ordinary is redon blue.",
		"The ordinary is red onblue.", "The ordinary is red\ton blue.", "The ordinary is\tred on blue.", "The ordinary is\u00a0red on blue.",
		"The ordinary isred on blue.", "The ordinary is red on blue!", "The ordinary is red on blue,", "The ordinary is red on blue.\x00",
		"The ordinary is red on blue\uff0e", "\ufeffThe ordinary is red on blue.", "The ordinary is r\xe9d on blue.", "The ordinary is red on bl\xfce.",
		"\xffThe ordinary is red on blue.", "The ordinary is red on blue.\xff", "The ordinary is red on blue\xff.", "Th\u0435 ordinary is red on blue.",
		"The ordinary is r\u0435d on blue.", "The ordinary is red \u043en blue.", "\xc3", "\xff\xfe",
		"The ordinary is red on blue.The ordinary is red on blue.", "The ordinary is red on blue. The ordinary is red on blue.",
		"The ordinary is The ordinary is red on blue.", "The ordinary is The charges around it are red on blue.",
		strings.Repeat("The ordinary is ", 10000), strings.Repeat("The ordinary is red on blue.", 10000), strings.Repeat(" on ", 10000),
		"The ordinary is red" + strings.Repeat(" on blue", 10000) + ".", "The ordinary is red on blue" + strings.Repeat(".", 10000),
		"The ordinary is" + strings.Repeat(" ", 10000) + "red on blue.", strings.Repeat("x", 100000),
	}
	for _, s := range append(rejected, oddStrings()...) {
		rejectFinding(t, s)
	}
}

// TestParseFindingIsInverse changes the texts by a word or a byte, and accepts the changed one
// only if it is the text of a finding.
func TestParseFindingIsInverse(t *testing.T) {
	findings := everyFinding()
	findingOf := map[string]impl.Finding{}
	for x, text := range findings {
		findingOf[text] = x
	}
	check := func(s string) {
		want, known := findingOf[s]
		if x, ok := impl.ParseFinding(s); ok != known || x != want {
			t.Errorf("ParseFinding(%q) = %v, %v instead of %v, %v", s, x, ok, want, known)
		}
	}
	extra := []string{"", "The", "ordinary", "charges", "around", "it", "is", "are", "on", "red", "blue.", "gold", "."}
	for _, text := range findings {
		for i := range len(text) + 1 {
			check(text[:i])
			check(text[i:])
			check(text[:i] + " " + text[i:])
			check(text[:i] + "." + text[i:])
			check(text[:i] + "\xe9" + text[i:])
			if i < len(text) {
				check(text[:i] + text[i+1:])
				check(text[:i] + string(text[i]^0x20) + text[i+1:])
				check(text[:i] + string([]byte{text[i] ^ 0x80}) + text[i+1:])
			}
		}
		for _, changed := range changedWords(text, extra) {
			check(changed)
		}
	}
}

// TestParseFindingOverParts reads all sentences of some parts, among them those of all findings.
func TestParseFindingOverParts(t *testing.T) {
	findingOf := map[string]impl.Finding{}
	for x, text := range everyFinding() {
		findingOf[text] = x
	}
	words := append([]string{"", "white", "red on red", "Red", "red."}, wordsOfTinctures...)
	starts := append([]string{"", "The ordinary are ", "The charges are ", "The charges on the ordinary is ", "The ordinary is", "The charges around it "}, startsOfFindings...)
	found := map[impl.Finding]bool{}
	for _, start := range starts {
		for _, upper := range words {
			for _, link := range []string{" on ", " ", "", " in ", " on"} {
				for _, lower := range words {
					for _, end := range []string{".", "", "..", " ", ". "} {
						s := start + upper + link + lower + end
						want, known := findingOf[s]
						x, ok := impl.ParseFinding(s)
						if ok != known || x != want {
							t.Errorf("ParseFinding(%q) = %v, %v instead of %v, %v", s, x, ok, want, known)
						}
						if ok {
							found[x] = true
						}
					}
				}
			}
		}
	}
	if len(found) != len(findingOf) {
		t.Errorf("%d findings instead of %d", len(found), len(findingOf))
	}
}

func TestAllowedAtExamples(t *testing.T) {
	every := []int{1, 2, 3, 4, 5, 6, 7, 8, 9}
	onMetals, onColors := []int{3, 4, 5, 6, 7, 8, 9}, []int{1, 2, 8, 9}
	notErmine, notVair := []int{1, 2, 3, 4, 5, 6, 7, 9}, []int{1, 2, 3, 4, 5, 6, 7, 8}
	for _, c := range []struct {
		arms string
		want [3][]int
	}{
		{"blue", [3][]int{}}, {"per pale red and gold", [3][]int{}},
		// Without an ordinary.
		{"blue, a star red", [3][]int{nil, nil, onColors}}, {"blue, a star gold", [3][]int{nil, nil, onColors}},
		{"silver, a star red", [3][]int{nil, nil, onMetals}}, {"ermine, a star red", [3][]int{nil, nil, notErmine}},
		{"vair, a star vair", [3][]int{nil, nil, notVair}}, {"per pale red and gold, a star red", [3][]int{nil, nil, every}},
		{"per pale red and ermine, a star red", [3][]int{nil, nil, every}}, {"paly ermine and vair, a star red", [3][]int{nil, nil, every}},
		{"per pale gold and silver, a star gold", [3][]int{nil, nil, onMetals}}, {"barry blue and red, a star red", [3][]int{nil, nil, onColors}},
		// An ordinary alone, with charges on it that do not count for it, and with charges around it.
		{"blue, a bend red", [3][]int{onColors, nil, nil}}, {"gold, a chief silver", [3][]int{onMetals, nil, nil}},
		{"ermine, a pale ermine", [3][]int{notErmine, nil, nil}}, {"barry red and silver, a pale ermine", [3][]int{every, nil, nil}},
		{"barry red and blue, a pale ermine", [3][]int{onColors, nil, nil}},
		{"blue, a bend red charged with a star gold", [3][]int{onColors, onColors, nil}},
		{"blue, a bend gold charged with a star gold", [3][]int{onColors, onMetals, nil}},
		{"blue, a bend vair charged with a star gold", [3][]int{onColors, notVair, nil}},
		{"per pale red and gold, a bend ermine charged with a star gold", [3][]int{every, notErmine, nil}},
		{"blue, a bend gold between a star gold", [3][]int{onColors, nil, onColors}},
		{"blue, a chief blue above a star blue", [3][]int{onColors, nil, onColors}},
		{"per pale red and gold, a bend red between a star gold", [3][]int{every, nil, every}},
		// All three layers.
		{fullText, [3][]int{onColors, onMetals, onColors}},
		{"vair, a fess red charged with a star blue between two keys gold", [3][]int{notVair, onColors, notVair}},
		{"silver, a chief ermine charged with a star blue above two keys gold", [3][]int{onMetals, notErmine, onMetals}},
		{"paly gold and red, a fess silver charged with a star blue between two keys gold", [3][]int{every, onMetals, every}},
		{"paly gold and silver, a fess green charged with a star blue between two keys gold", [3][]int{onMetals, onColors, onMetals}},
	} {
		a := armsOf(t, c.arms)
		for i, want := range c.want {
			if list, ok := impl.AllowedAt(a, i+1); ok != (len(want) > 0) || !slices.Equal(list, want) {
				t.Errorf("AllowedAt(%q, %d) = %v, %v instead of %v", c.arms, i+1, list, ok, want)
			}
		}
	}
}

// tinctureAt returns the tincture of the layer of valid arms at a place and the arms with
// another one, or 0 if there is no such layer.
func tinctureAt(a impl.Arms, place, x int) (int, impl.Arms) {
	b := a
	var at *int
	switch {
	case place == 1 && a.Ordinary != 0:
		at = &b.Tincture
	case place == 2 && a.On.Count != 0:
		at = &b.On.Tincture
	case place == 3 && a.Around.Count != 0:
		at = &b.Around.Tincture
	default:
		return 0, a
	}
	old := *at
	*at = x
	return old, b
}

// TestAllowedAtOfEveryTincturing compares the tinctures that are allowed at a place with the
// findings for the arms with each of them.
func TestAllowedAtOfEveryTincturing(t *testing.T) {
	check := func(a impl.Arms, place int) {
		var want []int
		for x := 1; x <= 9; x++ {
			old, b := tinctureAt(a, place, x)
			at := func(f impl.Finding) bool { return f.Place == place }
			if old != 0 && !slices.ContainsFunc(findingsOf(b), at) {
				want = append(want, x)
			}
		}
		old, _ := tinctureAt(a, place, 1)
		if list, ok := impl.AllowedAt(a, place); ok != (old != 0) || !slices.Equal(list, want) {
			t.Fatalf("AllowedAt(%v, %d) = %v, %v instead of %v", a, place, list, ok, want)
		}
	}
	// Every tincture is tried at each place by itself, so that only that below it matters.
	for _, f := range fieldsOfRules() {
		for _, shape := range shapesOfRules(f) {
			for x := 1; x <= 9; x++ {
				a := withTinctures(shape, []int{x, 1 + x%9, x}[:len(tincturesOfLayers(shape))-1])
				for place := 1; place <= 3; place++ {
					check(a, place)
				}
			}
		}
	}
	everyTincturing([]impl.Field{plainBlue, {First: impl.Ermine}, paleGoldRed, {Division: 6, First: impl.Black, Second: impl.Red}}, func(a impl.Arms) {
		for place := 1; place <= 3; place++ {
			check(a, place)
		}
	})
}

func TestAllowedAtRejectsPlaces(t *testing.T) {
	for _, a := range append(fewArms(), fullArms) {
		for _, place := range append(farNumbers(), 0, 4, 5, 7, 1<<32+2, 1<<32+3, -2, -3) {
			if list, ok := impl.AllowedAt(a, place); ok || len(list) != 0 {
				t.Errorf("AllowedAt(%v, %d) = %v, %v", a, place, list, ok)
			}
		}
	}
}

func TestRepairArmsExamples(t *testing.T) {
	for _, c := range []struct {
		arms, repaired string
		changes        int
	}{
		// Arms that keep the rules already.
		{"blue", "blue", 0}, {"per pale red and blue", "per pale red and blue", 0}, {"blue, a star gold", "blue, a star gold", 0},
		{"blue, a star vair", "blue, a star vair", 0}, {"vair, a bend ermine", "vair, a bend ermine", 0}, {fullText, fullText, 0},
		{"per pale red and gold, a bend red", "per pale red and gold, a bend red", 0},
		// One change, of the smallest tincture.
		{"blue, a star red", "blue, a star gold", 1}, {"gold, a star silver", "gold, a star red", 1}, {"ermine, a star ermine", "ermine, a star gold", 1},
		{"blue, a bend red", "blue, a bend gold", 1}, {"silver, a chief wavy gold", "silver, a chief wavy red", 1},
		{"barry red and blue, two lions passant green", "barry red and blue, two lions passant gold", 1},
		{"barry gold and silver, a fess gold", "barry gold and silver, a fess red", 1},
		{"barry red and blue, a chief black above a star gold", "barry red and blue, a chief gold above a star gold", 1},
		{"blue, a bend gold between a star red", "blue, a bend gold between a star gold", 1},
		{"blue, a bend vair between a star red", "blue, a bend vair between a star gold", 1},
		{"per pale red and gold, a bend red charged with a star red", "per pale red and gold, a bend gold charged with a star red", 1},
		// On clashes with the ordinary: one of both is changed, on a tie the one that leaves the
		// smaller tincture of the ordinary.
		{"blue, a bend gold charged with a star gold", "blue, a bend gold charged with a star red", 1},
		{"blue, a bend silver charged with a star gold", "blue, a bend silver charged with a star red", 1},
		{"blue, a bend ermine charged with a star ermine", "blue, a bend gold charged with a star ermine", 1},
		{"blue, a bend vair charged with a star vair", "blue, a bend gold charged with a star vair", 1},
		{"gold, a bend blue charged with a star red", "gold, a bend blue charged with a star gold", 1},
		{"gold, a bend ermine charged with a star ermine", "gold, a bend red charged with a star ermine", 1},
		{"per pale gold and red, a bend green charged with a star blue", "per pale gold and red, a bend gold charged with a star blue", 1},
		{"per pale gold and red, a bend green charged with a star green", "per pale gold and red, a bend gold charged with a star green", 1},
		{"per pale gold and red, a bend silver charged with a star silver", "per pale gold and red, a bend silver charged with a star red", 1},
		// The ordinary clashes with the field: its new tincture suits the charges on it.
		{"blue, a bend red charged with a star gold", "blue, a bend ermine charged with a star gold", 1},
		{"blue, a bend red charged with a star green", "blue, a bend gold charged with a star green", 1},
		{"blue, a bend red charged with a star ermine", "blue, a bend gold charged with a star ermine", 1},
		{"gold, a bend silver charged with a star red", "gold, a bend ermine charged with a star red", 1},
		{"gold, a bend silver charged with a star silver", "gold, a bend red charged with a star silver", 1},
		{"vair, a bend vair charged with a star gold", "vair, a bend red charged with a star gold", 1},
		{"ermine, a bend ermine charged with a star vair", "ermine, a bend gold charged with a star vair", 1},
		{"ermine, a bend ermine charged with a star ermine", "ermine, a bend gold charged with a star ermine", 1},
		// Two changes, for two findings and for three.
		{"red, a fess blue between three stars black", "red, a fess gold between three stars gold", 2},
		{"red, a chief red above three stars red", "red, a chief gold above three stars gold", 2},
		{"blue, a bend gold charged with a star silver between two keys red", "blue, a bend gold charged with a star red between two keys gold", 2},
		{"blue, a bend ermine charged with a star ermine between two keys red", "blue, a bend gold charged with a star ermine between two keys gold", 2},
		{"blue, a bend red charged with a star gold between two keys black", "blue, a bend ermine charged with a star gold between two keys gold", 2},
		{"blue, a bend red charged with a star green between two keys black", "blue, a bend gold charged with a star green between two keys gold", 2},
		{"silver, a bend gold charged with a star gold between two keys silver", "silver, a bend red charged with a star gold between two keys red", 2},
		{
			"per saltire silver and gold, a chief gold charged with a star silver above two keys gold",
			"per saltire silver and gold, a chief red charged with a star silver above two keys red", 2,
		},
	} {
		b, n, ok := impl.RepairArms(armsOf(t, c.arms))
		if text, _ := impl.ArmsText(b); !ok || n != c.changes || text != c.repaired {
			t.Errorf("RepairArms(%q) = %q, %d, %v instead of %q, %d", c.arms, text, n, ok, c.repaired, c.changes)
		}
	}
}

// repairOf returns, by trying all tinctures, the arms without findings with the fewest changes
// and then the smallest tinctures, and the number of changes.
func repairOf(a impl.Arms, choices [][]int) (impl.Arms, int) {
	old := slices.Concat(tincturesOfLayers(a)[1:]...)
	for changes := range len(old) + 1 {
		for _, choice := range choices {
			n := 0
			for i, x := range choice {
				if x != old[i] {
					n++
				}
			}
			if n != changes {
				continue
			}
			if b := withTinctures(a, choice); len(findingsOf(b)) == 0 {
				return b, changes
			}
		}
	}
	return impl.Arms{}, -1
}

// TestRepairArmsOfEveryTincturing compares repaired arms with those that are found by trying
// all tinctures. Two changes always suffice: one for the ordinary and what is on it, since a
// tincture of the ordinary always suits the field and what is on it, and one for Around.
func TestRepairArmsOfEveryTincturing(t *testing.T) {
	choices := [][][]int{tincturesFor(0), tincturesFor(1), tincturesFor(2), tincturesFor(3)}
	changes := map[int]int{}
	fields := []impl.Field{
		{First: impl.Silver}, plainBlue, {First: impl.Ermine}, {First: impl.Vair}, paleGoldRed,
		{Division: impl.DivBarry, First: impl.Gold, Second: impl.Silver}, {Division: impl.DivPaly, First: impl.Black, Second: impl.Red},
		{Division: impl.DivFess, First: impl.Ermine, Second: impl.Vair}, {Division: impl.DivBend, Line: 1, First: impl.Vair, Second: impl.Gold},
	}
	everyTincturing(fields, func(a impl.Arms) {
		want, n := repairOf(a, choices[len(tincturesOfLayers(a))-1])
		b, m, ok := impl.RepairArms(a)
		if !ok || b != want || m != n {
			t.Fatalf("RepairArms(%v) = %v, %d, %v instead of %v, %d", a, b, m, ok, want, n)
		}
		changes[n]++
	})
	if len(changes) != 3 || changes[0] == 0 || changes[1] == 0 || changes[2] == 0 {
		t.Error("numbers of changes:", changes)
	}
}

// TestRepairedArmsKeepRules checks the guarantee on all fields: repaired arms have no findings
// and the same field and shape, two changes suffice, and arms without findings remain as they are.
func TestRepairedArmsKeepRules(t *testing.T) {
	everyTincturing(fieldsOfRules(), func(a impl.Arms) { checkRepair(t, a) })
	for _, a := range someArms() {
		checkRepair(t, a)
	}
}

// checkRepair checks that repaired arms keep the rules and are otherwise the same.
func checkRepair(t *testing.T, a impl.Arms) {
	t.Helper()
	b, n, ok := impl.RepairArms(a)
	keeps, fine := impl.KeepsRules(b)
	if !ok || !fine || !keeps || len(findingsOf(b)) != 0 {
		t.Fatalf("RepairArms(%v) = %v, %d, %v, which keeps the rules: %v, %v", a, b, n, ok, keeps, fine)
	}
	if same, ok := impl.SameShape(a, b); !ok || !same || a.Field != b.Field || withoutTinctures(a) != withoutTinctures(b) {
		t.Fatalf("RepairArms(%v) = %v", a, b)
	}
	before, _ := impl.ArmsTinctures(a)
	after, _ := impl.ArmsTinctures(b)
	changes := 0
	for i, x := range before {
		if after[i] != x {
			changes++
		}
	}
	if n != changes || n > 2 || (n == 0) != (len(findingsOf(a)) == 0) {
		t.Fatalf("RepairArms(%v) = %v with %d changes instead of %d", a, b, n, changes)
	}
	if c, m, ok := impl.RepairArms(b); !ok || c != b || m != 0 {
		t.Fatalf("RepairArms(%v) = %v, %d, %v", b, c, m, ok)
	}
}

func TestIsPoorField(t *testing.T) {
	numbers := map[bool]int{}
	for f := range everyField() {
		want := f.Division != 0 && clashWithAll(f.First, f.Second)
		if poor, ok := impl.IsPoorField(f); !ok || poor != want {
			t.Errorf("IsPoorField(%v) = %v, %v", f, poor, ok)
		}
		numbers[want]++
	}
	// Two metals and five colors in both orders, with all divisions and lines.
	if numbers[true] != (2*1+5*4)*7*5 {
		t.Error(numbers)
	}
	for s, want := range map[string]bool{
		"gold": false, "blue": false, "ermine": false, "per pale red and blue": true, "per fess gold and silver": true,
		"per fess silver and gold": true, "quarterly wavy purple and green": true, "paly red and gold": false, "barry ermine and vair": false,
		"per bend silver and ermine": false, "per saltire indented vair and blue": false,
	} {
		f, read := impl.ParseField(s)
		if poor, ok := impl.IsPoorField(f); !read || !ok || poor != want {
			t.Errorf("IsPoorField(%q) = %v, %v", s, poor, ok)
		}
	}
	for _, f := range noFields() {
		if poor, ok := impl.IsPoorField(f); ok || poor {
			t.Errorf("IsPoorField(%v) = %v, %v", f, poor, ok)
		}
	}
}

func TestRulesOfInvalidArms(t *testing.T) {
	for _, a := range noArms() {
		if findings, ok := impl.RuleFindings(a); ok || len(findings) != 0 {
			t.Errorf("RuleFindings(%v) = %v, %v", a, findings, ok)
		}
		if keeps, ok := impl.KeepsRules(a); ok || keeps {
			t.Errorf("KeepsRules(%v) = %v, %v", a, keeps, ok)
		}
		if findings, ok := impl.LenientFindings(a); ok || len(findings) != 0 {
			t.Errorf("LenientFindings(%v) = %v, %v", a, findings, ok)
		}
		for _, place := range append(farNumbers(), 0, 1, 2, 3, 4) {
			if list, ok := impl.AllowedAt(a, place); ok || len(list) != 0 {
				t.Errorf("AllowedAt(%v, %d) = %v, %v", a, place, list, ok)
			}
		}
		if b, n, ok := impl.RepairArms(a); ok || n != 0 || b != (impl.Arms{}) {
			t.Errorf("RepairArms(%v) = %v, %d, %v", a, b, n, ok)
		}
	}
}

// TestRuleListsAreNewMemory changes results and what lies behind their ends.
func TestRuleListsAreNewMemory(t *testing.T) {
	a := armsOf(t, "blue, a chief red charged with a star green above three keys black")
	for _, findings := range []func(impl.Arms) ([]impl.Finding, bool){impl.RuleFindings, impl.LenientFindings} {
		first, _ := findings(a)
		kept := slices.Clone(first)
		second, _ := findings(a)
		for i := range first {
			first[i] = impl.Finding{Place: 77}
		}
		_ = append(first[:1], impl.Finding{Place: 78}, impl.Finding{Place: 79})
		if third, ok := findings(a); !ok || !slices.Equal(second, kept) || !slices.Equal(third, kept) {
			t.Errorf("%v and %v instead of %v", second, third, kept)
		}
	}
	for place := 1; place <= 3; place++ {
		first, _ := impl.AllowedAt(a, place)
		kept := slices.Clone(first)
		second, _ := impl.AllowedAt(a, place)
		for i := range first {
			first[i] = 77
		}
		_ = append(first[:1], 78, 79)
		if third, ok := impl.AllowedAt(a, place); !ok || !slices.Equal(second, kept) || !slices.Equal(third, kept) {
			t.Errorf("%v and %v instead of %v", second, third, kept)
		}
	}
}
