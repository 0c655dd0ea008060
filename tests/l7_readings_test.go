package tests

import (
	"math"
	"regexp"
	"slices"
	"strings"
	"testing"

	"loop.example/g00884/impl"
)

// The slots without a number.
var (
	ofField = impl.Slot{Mode: impl.SlotField}
	ofLast  = impl.Slot{Mode: impl.SlotLast}
	leftOut = impl.Slot{Mode: impl.SlotNext}
)

// worded returns the slot with a tincture.
func worded(x int) impl.Slot { return impl.Slot{Mode: impl.SlotWord, Number: x} }

// nth returns the slot that refers to the tincture with a number.
func nth(n int) impl.Slot { return impl.Slot{Mode: impl.SlotNth, Number: n} }

// everySlot returns the valid slots with the texts that the document gives them, with the space
// before them.
func everySlot() map[impl.Slot]string {
	slots := map[impl.Slot]string{
		ofField: " of the field", nth(1): " of the first", nth(2): " of the second", nth(3): " of the third", ofLast: " of the last",
		leftOut: "",
	}
	for i, word := range wordsOfTinctures {
		slots[worded(i+1)] = " " + word
	}
	return slots
}

// goldenArms returns arms as they stand in a sketch: with every combination of layers above the
// field, on plain and divided fields.
func goldenArms() []impl.Arms {
	roses, eagle := threeRoses, oneEagle
	roses.Tincture, eagle.Tincture = impl.Gold, impl.Gold
	var list []impl.Arms
	for _, f := range []impl.Field{plainBlue, {First: impl.Gold}, paleGoldRed, {Division: impl.DivQuarter, First: impl.Vair, Second: impl.Blue}} {
		list = append(list, impl.Arms{Field: f}, impl.Arms{Field: f, Around: eagle}, impl.Arms{Field: f, Around: roses})
		for i, ordinary := range []int{impl.OrdBend, impl.OrdChief} {
			a := impl.Arms{Field: f, Ordinary: ordinary, Line: 2 * i, Tincture: impl.Gold}
			for _, groups := range [][2]impl.Group{{}, {roses, {}}, {{}, eagle}, {roses, eagle}, {eagle, roses}} {
				a.On, a.Around = groups[0], groups[1]
				list = append(list, a)
			}
		}
	}
	return list
}

// slotLists returns all lists of n slots that are valid each by itself.
func slotLists(n int) [][]impl.Slot {
	lists := [][]impl.Slot{nil}
	for range n {
		var longer [][]impl.Slot
		for _, list := range lists {
			for slot := range everySlot() {
				longer = append(longer, append(slices.Clone(list), slot))
			}
		}
		lists = longer
	}
	return lists
}

// everySketch calls visit with every valid sketch with given arms.
func everySketch(a impl.Arms, visit func(impl.Sketch)) {
	for _, slots := range slotLists(len(tincturesOfLayers(a)) - 1) {
		if len(slots) == 0 || slots[len(slots)-1] != leftOut {
			visit(impl.Sketch{Arms: a, Slots: slots})
		}
	}
}

// withTinctures returns arms with other tinctures of the layers above the field.
func withTinctures(a impl.Arms, tinctures []int) impl.Arms {
	rest := tinctures
	next := func() int {
		x := rest[0]
		rest = rest[1:]
		return x
	}
	if a.Ordinary != 0 {
		a.Tincture = next()
	}
	if a.On.Count != 0 {
		a.On.Tincture = next()
	}
	if a.Around.Count != 0 {
		a.Around.Tincture = next()
	}
	return a
}

// mentionedBefore returns the tinctures that are mentioned before the slot i, and whether those
// slots have tinctures.
func mentionedBefore(k impl.Sketch, i int) ([]int, bool) {
	mentioned := slices.Clone(tincturesOfLayers(k.Arms)[0])
	for j, slot := range k.Slots[:i] {
		if slot == leftOut {
			continue
		}
		x, ok := tinctureOfSlot(k, j)
		if !ok {
			return nil, false
		}
		mentioned = append(mentioned, x)
	}
	return mentioned, true
}

// tinctureOfSlot returns the tincture for which the slot i of a valid sketch stands.
func tinctureOfSlot(k impl.Sketch, i int) (int, bool) {
	slot := k.Slots[i]
	for slot == leftOut {
		i++
		slot = k.Slots[i]
	}
	mentioned, ok := mentionedBefore(k, i)
	if !ok {
		return 0, false
	}
	var different []int
	for _, x := range mentioned {
		if !slices.Contains(different, x) {
			different = append(different, x)
		}
	}
	switch {
	case slot.Mode == impl.SlotWord:
		return slot.Number, true
	case slot.Mode == impl.SlotField && k.Arms.Field.Division == 0:
		return k.Arms.Field.First, true
	case slot.Mode == impl.SlotNth && slot.Number <= len(different):
		return different[slot.Number-1], true
	case slot.Mode == impl.SlotLast:
		return mentioned[len(mentioned)-1], true
	}
	return 0, false
}

// readingsOf returns the arms for which a valid sketch stands and all its other readings in
// ascending order of their texts, and whether it has a reading.
func readingsOf(x *armsTexts, k impl.Sketch) (impl.Arms, []impl.Arms, bool) {
	choices := [][]int{nil}
	for i, slot := range k.Slots {
		tincture, ok := tinctureOfSlot(k, i)
		if !ok {
			return impl.Arms{}, nil, false
		}
		var longer [][]int
		for _, choice := range choices {
			longer = append(longer, append(slices.Clone(choice), tincture))
		}
		if slot == leftOut {
			mentioned, _ := mentionedBefore(k, i)
			for _, choice := range choices {
				longer = append(longer, append(slices.Clone(choice), mentioned[len(mentioned)-1]))
			}
		}
		choices = longer
	}
	resolved := withTinctures(k.Arms, choices[0])
	texts := map[string]impl.Arms{}
	for _, choice := range choices {
		a := withTinctures(k.Arms, choice)
		texts[x.text(a)] = a
	}
	delete(texts, x.text(resolved))
	var words []string
	for text := range texts {
		words = append(words, text)
	}
	slices.Sort(words)
	var others []impl.Arms
	for _, text := range words {
		others = append(others, texts[text])
	}
	return resolved, others, true
}

// sketchTexts writes and reads sketches as the document says it.
type sketchTexts struct {
	*armsTexts
	slots  map[impl.Slot]string
	slotOf map[string]impl.Slot
	links  *regexp.Regexp
	layer  *regexp.Regexp
}

func newSketchTexts() *sketchTexts {
	x := &sketchTexts{armsTexts: newArmsTexts(), slots: everySlot(), slotOf: map[string]impl.Slot{}}
	for slot, text := range x.slots {
		x.slotOf[text] = slot
	}
	x.links = regexp.MustCompile(` charged with | above | between |$`)
	x.layer = regexp.MustCompile(`^(.*?)( of the [a-z]+| ` + strings.Join(wordsOfTinctures, "| ") + `)?$`)
	return x
}

// write returns the text of a valid sketch.
func (x *sketchTexts) write(k impl.Sketch) string {
	// The field, which may be of gold, too, has no slot.
	field := x.fields[k.Arms.Field]
	parts := strings.Split(strings.TrimPrefix(x.text(k.Arms), field), " gold")
	text := field + parts[0]
	for i, slot := range k.Slots {
		text += x.slots[slot] + parts[i+1]
	}
	return text
}

// readSketch returns the sketch whose text is s.
func (x *sketchTexts) readSketch(s string) (impl.Sketch, bool) {
	var k impl.Sketch
	field, layers, further := strings.Cut(s, ", ")
	if !further {
		a, known := x.read(s)
		return impl.Sketch{Arms: a}, known
	}
	canonical, start := field+", ", 0
	for _, link := range x.links.FindAllStringIndex(layers, -1) {
		found := x.layer.FindStringSubmatch(layers[start:link[0]])
		if found == nil {
			return impl.Sketch{}, false
		}
		slot, known := x.slotOf[found[2]]
		if !known {
			return impl.Sketch{}, false
		}
		k.Slots = append(k.Slots, slot)
		canonical += found[1] + " gold" + layers[link[0]:link[1]]
		start = link[1]
	}
	a, known := x.read(canonical)
	k.Arms = a
	if !known || k.Slots[len(k.Slots)-1] == leftOut {
		return impl.Sketch{}, false
	}
	return k, true
}

// checkSketch compares ParseSketch and ResolveText with what the document says of a text, and
// returns whether it has a sketch.
func (x *sketchTexts) checkSketch(t *testing.T, s string) bool {
	t.Helper()
	want, known := x.readSketch(s)
	if k, ok := impl.ParseSketch(s); ok != known || !sameSketch(k, want) {
		t.Errorf("ParseSketch(%q) = %v, %v instead of %v, %v", s, k, ok, want, known)
	}
	text := ""
	if known {
		var resolved impl.Arms
		if resolved, _, known = readingsOf(x.armsTexts, want); known {
			text = x.text(resolved)
		}
	}
	if u, ok := impl.ResolveText(s); ok != known || u != text {
		t.Errorf("ResolveText(%q) = %q, %v instead of %q, %v", s, u, ok, text, known)
	}
	return want.Arms != impl.Arms{}
}

// sameSketch reports whether two sketches are equal.
func sameSketch(a, b impl.Sketch) bool { return a.Arms == b.Arms && slices.Equal(a.Slots, b.Slots) }

// sketchOf returns the sketch with a text.
func sketchOf(t *testing.T, s string) impl.Sketch {
	t.Helper()
	k, ok := impl.ParseSketch(s)
	if !ok {
		t.Fatalf("ParseSketch(%q) fails", s)
	}
	return k
}

// rejectSketch checks that a text is the text of no sketch.
func rejectSketch(t *testing.T, s string) {
	t.Helper()
	if k, ok := impl.ParseSketch(s); ok || !sameSketch(k, impl.Sketch{}) {
		t.Errorf("ParseSketch(%.80q) = %v, %v", s, k, ok)
	}
	if text, ok := impl.ResolveText(s); ok || text != "" {
		t.Errorf("ResolveText(%.80q) = %q, %v", s, text, ok)
	}
}

// rejectEverywhere checks that every function fails for an invalid sketch and leaves it as it is.
func rejectEverywhere(t *testing.T, k impl.Sketch) {
	t.Helper()
	kept := slices.Clone(k.Slots)
	if impl.IsValidSketch(k) {
		t.Errorf("IsValidSketch(%v)", k)
	}
	if text, ok := impl.SketchText(k); ok || text != "" {
		t.Errorf("SketchText(%v) = %q, %v", k, text, ok)
	}
	rejectReading(t, k)
	if !slices.Equal(k.Slots, kept) {
		t.Errorf("slots %v instead of %v", k.Slots, kept)
	}
}

// rejectReading checks that a sketch has no reading.
func rejectReading(t *testing.T, k impl.Sketch) {
	t.Helper()
	if a, ok := impl.ResolveSketch(k); ok || a != (impl.Arms{}) {
		t.Errorf("ResolveSketch(%v) = %v, %v", k, a, ok)
	}
	if list, ok := impl.OtherReadings(k); ok || len(list) != 0 {
		t.Errorf("OtherReadings(%v) = %v, %v", k, list, ok)
	}
}

// noSlots returns invalid slots: modes and numbers below and above what is allowed, and numbers
// where 0 is asked.
func noSlots() []impl.Slot {
	var slots []impl.Slot
	numbers := append(farNumbers(), -9, -3, -2, 0, 1, 2, 3, 4, 5, 6, 7, 8, 9, 12, 1<<32, 1<<32+3)
	valid := everySlot()
	for _, mode := range numbers {
		for _, number := range numbers {
			slot := impl.Slot{Mode: mode, Number: number}
			if _, known := valid[slot]; !known {
				slots = append(slots, slot)
			}
		}
	}
	return slots
}

func TestSlotConstants(t *testing.T) {
	modes := []int{impl.SlotWord, impl.SlotField, impl.SlotNth, impl.SlotLast, impl.SlotNext}
	if !slices.Equal(modes, []int{1, 2, 3, 4, 5}) {
		t.Error(modes)
	}
}

func TestSketchTextExamples(t *testing.T) {
	lions := impl.Group{Count: 2, Kind: impl.KindLion, Attitude: 1, Tincture: impl.Gold}
	star := impl.Group{Count: 1, Kind: impl.KindStar, Tincture: impl.Gold}
	redSilver := impl.Field{Division: impl.DivPale, First: impl.Red, Second: impl.Silver}
	bend := impl.Arms{Field: plainBlue, Ordinary: impl.OrdBend, Tincture: impl.Gold}
	full := impl.Arms{Field: redSilver, Ordinary: impl.OrdChief, Line: impl.LineIndented, Tincture: impl.Gold, On: star, Around: lions}
	onBend, aroundBend := bend, bend
	onBend.On, aroundBend.Around = star, lions
	for _, c := range []struct {
		a     impl.Arms
		slots []impl.Slot
		text  string
	}{
		{impl.Arms{Field: plainBlue}, nil, "blue"},
		{impl.Arms{Field: plainBlue}, []impl.Slot{}, "blue"},
		{impl.Arms{Field: redSilver}, nil, "per pale red and silver"},
		{impl.Arms{Field: plainBlue, Around: star}, []impl.Slot{worded(impl.Gold)}, "blue, a star gold"},
		{impl.Arms{Field: plainBlue, Around: star}, []impl.Slot{worded(impl.Vair)}, "blue, a star vair"},
		{impl.Arms{Field: plainBlue, Around: lions}, []impl.Slot{ofField}, "blue, two lions rampant of the field"},
		{impl.Arms{Field: redSilver, Around: lions}, []impl.Slot{nth(2)}, "per pale red and silver, two lions rampant of the second"},
		{bend, []impl.Slot{ofLast}, "blue, a bend of the last"},
		{bend, []impl.Slot{nth(1)}, "blue, a bend of the first"},
		{bend, []impl.Slot{nth(3)}, "blue, a bend of the third"},
		{onBend, []impl.Slot{leftOut, worded(impl.Red)}, "blue, a bend charged with a star red"},
		{onBend, []impl.Slot{worded(impl.Red), ofLast}, "blue, a bend red charged with a star of the last"},
		{aroundBend, []impl.Slot{leftOut, worded(impl.Gold)}, "blue, a bend between two lions rampant gold"},
		{aroundBend, []impl.Slot{ofField, ofField}, "blue, a bend of the field between two lions rampant of the field"},
		{aroundBend, []impl.Slot{leftOut, nth(2)}, "blue, a bend between two lions rampant of the second"},
		{full, []impl.Slot{leftOut, leftOut, worded(impl.Black)}, "per pale red and silver, a chief indented charged with a star above two lions rampant black"},
		{full, []impl.Slot{worded(impl.Gold), leftOut, ofLast}, "per pale red and silver, a chief indented gold charged with a star above two lions rampant of the last"},
		{full, []impl.Slot{nth(1), nth(2), nth(3)}, "per pale red and silver, a chief indented of the first charged with a star of the second above two lions rampant of the third"},
		{full, []impl.Slot{leftOut, worded(impl.Ermine), worded(impl.Red)}, "per pale red and silver, a chief indented charged with a star ermine above two lions rampant red"},
	} {
		k := impl.Sketch{Arms: c.a, Slots: c.slots}
		if text, ok := impl.SketchText(k); !ok || text != c.text || !impl.IsValidSketch(k) {
			t.Errorf("SketchText(%v) = %q, %v instead of %q", k, text, ok, c.text)
		}
		if got, ok := impl.ParseSketch(c.text); !ok || !sameSketch(got, k) {
			t.Errorf("ParseSketch(%q) = %v, %v", c.text, got, ok)
		}
	}
}

// TestSketchTextsRoundTrip recovers every sketch with some arms from its text, which no other of
// them has.
func TestSketchTextsRoundTrip(t *testing.T) {
	x := newSketchTexts()
	for _, a := range goldenArms() {
		seen := map[string]bool{}
		everySketch(a, func(k impl.Sketch) {
			want := x.write(k)
			if text, ok := impl.SketchText(k); !ok || text != want || !impl.IsValidSketch(k) {
				t.Errorf("SketchText(%v) = %q, %v instead of %q", k, text, ok, want)
			}
			if got, ok := impl.ParseSketch(want); !ok || !sameSketch(got, k) {
				t.Errorf("ParseSketch(%q) = %v, %v instead of %v", want, got, ok, k)
			}
			if seen[want] {
				t.Errorf("two sketches have the text %q", want)
			}
			seen[want] = true
		})
	}
}

// TestSketchTextsOfEveryLayer writes and reads sketches with every ordinary, line, kind, count
// and attitude.
func TestSketchTextsOfEveryLayer(t *testing.T) {
	x := newSketchTexts()
	check := func(a impl.Arms, slots ...impl.Slot) {
		k := impl.Sketch{Arms: a, Slots: slots}
		want := x.write(k)
		if text, ok := impl.SketchText(k); !ok || text != want {
			t.Errorf("SketchText(%v) = %q, %v instead of %q", k, text, ok, want)
		}
		if got, ok := impl.ParseSketch(want); !ok || !sameSketch(got, k) {
			t.Errorf("ParseSketch(%q) = %v, %v instead of %v", want, got, ok, k)
		}
	}
	for _, g := range someGroups() {
		g.Tincture = impl.Gold
		for ordinary := impl.OrdPale; ordinary <= impl.OrdChief; ordinary++ {
			for line := range 5 {
				a := impl.Arms{Field: plainBlue, Ordinary: ordinary, Line: line, Tincture: impl.Gold, On: g, Around: g}
				check(a, leftOut, leftOut, worded(impl.Red))
				check(a, leftOut, ofLast, worded(impl.Gold))
				a.On = impl.Group{}
				check(a, leftOut, ofField)
				a.On, a.Around = g, impl.Group{}
				check(a, worded(impl.Silver), nth(3))
			}
		}
		check(impl.Arms{Field: plainBlue, Around: g}, ofLast)
	}
	for f := range x.fields {
		check(impl.Arms{Field: f})
		check(impl.Arms{Field: f, Around: impl.Group{Count: 2, Kind: impl.KindKey, Tincture: impl.Gold}}, nth(2))
	}
}

// TestIsValidSketchOfEveryList tries all lists of up to four valid slots with arms of every
// number of layers.
func TestIsValidSketchOfEveryList(t *testing.T) {
	lists := slices.Concat(slotLists(0), slotLists(1), slotLists(2), slotLists(3))
	for i, list := range slotLists(3) {
		lists = append(lists, append(slices.Clone(list), []impl.Slot{leftOut, ofLast, worded(1 + i%9)}[i%3]))
	}
	for _, a := range goldenArms() {
		n := len(tincturesOfLayers(a)) - 1
		for _, slots := range lists {
			k := impl.Sketch{Arms: a, Slots: slots}
			want := len(slots) == n && (n == 0 || slots[n-1] != leftOut)
			if impl.IsValidSketch(k) != want {
				t.Errorf("IsValidSketch(%v) = %v", k, !want)
			}
			if len(slots) != n && len(slots) < 3 || len(slots) == n && !want {
				rejectEverywhere(t, k)
			}
		}
	}
}

// TestSketchesWithInvalidSlots puts every invalid slot in each place.
func TestSketchesWithInvalidSlots(t *testing.T) {
	for _, a := range goldenArms() {
		if a.Field != plainBlue && a.Field != paleGoldRed {
			continue
		}
		n := len(tincturesOfLayers(a)) - 1
		for i := range n {
			for _, wrong := range noSlots() {
				slots := slices.Repeat([]impl.Slot{worded(impl.Red)}, n)
				slots[i] = wrong
				rejectEverywhere(t, impl.Sketch{Arms: a, Slots: slots})
			}
		}
		for _, wrong := range noSlots()[:20] {
			rejectEverywhere(t, impl.Sketch{Arms: a, Slots: append(slices.Repeat([]impl.Slot{worded(impl.Red)}, n), wrong)})
		}
		rejectEverywhere(t, impl.Sketch{Arms: a, Slots: slices.Repeat([]impl.Slot{worded(impl.Red)}, 100000)})
	}
}

// TestSketchesWithOtherTinctures puts other tinctures than Gold, and numbers that are none, in
// the arms of sketches.
func TestSketchesWithOtherTinctures(t *testing.T) {
	for _, a := range goldenArms() {
		n := len(tincturesOfLayers(a)) - 1
		for i := range n {
			for _, x := range append(noTinctures(), 2, 3, 4, 5, 6, 7, 8, 9) {
				tinctures := slices.Repeat([]int{impl.Gold}, n)
				tinctures[i] = x
				for _, slot := range []impl.Slot{worded(impl.Gold), worded(impl.Red), ofLast, leftOut} {
					slots := slices.Repeat([]impl.Slot{slot}, n)
					slots[n-1] = worded(impl.Red)
					rejectEverywhere(t, impl.Sketch{Arms: withTinctures(a, tinctures), Slots: slots})
				}
			}
		}
	}
}

func TestSketchesOfInvalidArms(t *testing.T) {
	for _, a := range noArms() {
		for _, slots := range [][]impl.Slot{nil, {worded(impl.Gold)}, {leftOut, ofLast}, {worded(1), nth(1), ofLast}, {ofLast, ofLast, ofLast, ofLast}} {
			rejectEverywhere(t, impl.Sketch{Arms: a, Slots: slots})
		}
		for _, sketch := range []func(impl.Arms) (impl.Sketch, bool){impl.PlainSketch, impl.ShortestSketch} {
			if k, ok := sketch(a); ok || !sameSketch(k, impl.Sketch{}) {
				t.Errorf("sketch of %v: %v, %v", a, k, ok)
			}
		}
	}
	rejectEverywhere(t, impl.Sketch{})
}

func TestParseSketchRejects(t *testing.T) {
	rejected := []string{
		"", " ", ",", ", ", ", , ", "gold,", "gold, ", " gold", "gold ", "Gold", "golden", "per pale gold", "per pale gold and gold",
		"of the field", "of the field, a star red", "gold, of the field", "gold, gold", "gold, a", "gold, a ", "gold, of the last",
		"per pale red and of the first", "per pale red and", "per pale red", "per pale", "a star red", "a bend gold",
		// The last tincture is left out.
		"blue, a star", "blue, an eagle displayed", "blue, a bend", "blue, a bend wavy", "blue, a bend red between a star",
		"blue, a bend red charged with a star", "blue, a bend charged with a star", "blue, a bend between a star",
		"blue, a bend charged with a star red between a key", "blue, a bend red charged with a star red between a key",
		"blue, a bend charged with a star between a key", "blue, a chief above a star",
		// Something between the words of a slot is missing, too much or in another order.
		"blue, a star of the", "blue, a star of field", "blue, a star the field", "blue, a star field", "blue, a star of the fields",
		"blue, a star of the fourth", "blue, a star of the nth", "blue, a star of the next", "blue, a star of the First",
		"blue, a star of the field red", "blue, a star red of the field", "blue, a star of the last last", "blue, a star of the",
		"blue, a star of the of the field", "blue, a star of the field of the field", "blue, a star of the red", "blue, a star of red",
		"blue, a star  of the field", "blue, a star of  the field", "blue, a star of the  field", "blue, a star of the field ",
		"blue, a star, of the field", "blue, a starof the field", "blue, a star of thefield", "blue, a star of the 1", "blue, a star last",
		"blue, a star of the zeroth", "blue, a star of the one", "blue, a star of the blue", "blue, a star of the lasts",
		"blue, a star ", "blue, a star red ", "blue, a star  red", "blue, a star red red", "blue, a lion of the field rampant",
		"blue, a lion of the field", "blue, a lion red", "blue, a lion rampant", "blue, a bend of the field wavy",
		"blue, a bend  between a star red", "blue, a bend  charged with a star red", "blue,  a bend between a star red",
		"blue, a bend gold  between a star red", "blue, a bend between  a star red", "blue, a bend , between a star red",
		"blue, a wavy bend between a star red", "blue, bend between a star red", "blue, a bend between a bend red",
		"blue, a chief between a star red", "blue, a bend above a star red", "blue, a bend above a star red between a star red",
		"blue, a chief above a star red between a star red", "blue, a chief above a star red above a star red",
		"blue, a bend between a star red between a star red", "blue, a bend between a star red charged with a star red",
		"blue, a bend charged with a star red charged with a star red", "blue, a bend charged with between a star red",
		"blue, a bend charged with  between a star red", "blue, charged with a star red", "blue,  charged with a star red",
		"blue charged with a star red", "blue between a star red", "blue above a star red", "blue, between a star red",
		"blue,  between a star red", "blue, a star between a star red", "blue, a star charged with a star red",
		"blue, a bend, a star red", "blue, a bend red, a star of the last", "blue, a star, a star red", "blue, a star red, a star red",
		"blue, a bend of the field charged with of the field", "blue, a bend between of the field", "blue, a bend between red",
		"blue, a bend\x80 between a star red", "blue, a bend between a star of the fi\xc3\xa9ld", "bl\xffue", "\xff", "blue\xff",
		"blue, a star\u00a0red", "blue, a star of the f\u0456eld", "blue, a star r\xe9d", "\ufeffblue, a star red", "blue, a star of the last\xff",
		"blue, a star of the last\x00", "blue, a star of the last\n", "blue, a star\tof the last", "blue; a star red", "blue,a star red",
		strings.Repeat("blue, ", 10000), strings.Repeat(", ", 10000), "blue, a star" + strings.Repeat(" of the", 10000) + " field",
		"blue, a star" + strings.Repeat(" of the last", 10000), "blue, a bend" + strings.Repeat(" between a star red", 10000),
		"blue, a bend" + strings.Repeat(" charged with", 10000) + " a star red", strings.Repeat(" above ", 10000),
		"blue, " + strings.Repeat(" ", 10000) + "red", "blue, a star" + strings.Repeat(" red", 10000), strings.Repeat("x", 100000),
	}
	x := newSketchTexts()
	for _, s := range append(rejected, oddStrings()...) {
		rejectSketch(t, s)
		if _, known := x.readSketch(s); known {
			t.Errorf("%.80q is the text of a sketch", s)
		}
	}
}

// TestParseSketchIsInverse changes texts by a byte or a word, and accepts a changed one only if
// it is the text of a sketch.
func TestParseSketchIsInverse(t *testing.T) {
	x := newSketchTexts()
	extra := []string{
		"", ",", "a", "of", "the", "of the", "field", "first", "second", "third", "last", "of the last", "of the field", "gold", "red",
		"bend", "chief", "wavy", "star", "charged with", "above", "between",
	}
	for _, text := range []string{
		"blue", "per pale wavy gold and red", "blue, a star of the field", "per fess red and gold, two keys of the second",
		"blue, a bend of the last", "blue, a bend between two lions rampant gold", "red, a chief wavy of the field above a star of the last",
		"gold, a pale charged with a star between two keys black",
		"per pale red and silver, a fess of the second charged with a star of the first between an eagle rising of the third",
		"gold, a chief charged with a rose of the field above six fish swimming vair",
	} {
		if !x.checkSketch(t, text) {
			t.Errorf("%q is not the text of a sketch", text)
		}
		for i := range len(text) + 1 {
			x.checkSketch(t, text[:i])
			x.checkSketch(t, text[i:])
			for _, s := range []string{" ", ",", "s", "\x80"} {
				x.checkSketch(t, text[:i]+s+text[i:])
			}
			if i < len(text) {
				x.checkSketch(t, text[:i]+text[i+1:])
				x.checkSketch(t, text[:i]+"x"+text[i+1:])
			}
		}
		for _, changed := range changedWords(text, extra) {
			x.checkSketch(t, changed)
		}
	}
}

// TestParseSketchOverParts reads all texts of a field and of up to six parts of texts.
func TestParseSketchOverParts(t *testing.T) {
	x := newSketchTexts()
	parts := []string{", ", "a bend", "a chief", " charged with ", " between ", " above ", "a star", " red", " of the last"}
	texts := []string{"gold"}
	found := 0
	for range 6 {
		var longer []string
		for _, text := range texts {
			for _, part := range parts {
				if !strings.Contains(text+part, ", , ") && strings.HasPrefix(text+part, "gold, ") {
					longer = append(longer, text+part)
				}
			}
		}
		texts = longer
		for _, text := range texts {
			if x.checkSketch(t, text) {
				found++
			}
		}
	}
	// A star or an ordinary with each of two slots; and both ordinaries with one of two groups
	// whose slot is one of two, behind a slot left out or, with a part more, one of two.
	if found != 2+2*2+2*2*(2+2*2) {
		t.Error("found", found)
	}
}

func TestResolveTextExamples(t *testing.T) {
	x := newSketchTexts()
	for _, c := range [][2]string{
		{"blue", "blue"}, {"per pale red and silver", "per pale red and silver"}, {"blue, a star red", "blue, a star red"},
		// References behind the field alone.
		{"blue, a star of the field", "blue, a star blue"}, {"blue, a star of the first", "blue, a star blue"},
		{"blue, a star of the last", "blue, a star blue"}, {"blue, a star of the second", ""}, {"blue, a star of the third", ""},
		{"blue, a bend of the field", "blue, a bend blue"}, {"blue, a bend of the last", "blue, a bend blue"},
		{"barry red and gold, a star of the field", ""}, {"barry red and gold, a star of the first", "barry red and gold, a star red"},
		{"barry red and gold, a star of the second", "barry red and gold, a star gold"}, {"barry red and gold, a star of the third", ""},
		{"barry red and gold, a star of the last", "barry red and gold, a star gold"},
		{"barry red and gold, a fess of the field", ""}, {"barry red and gold, a fess of the last", "barry red and gold, a fess gold"},
		// References behind other slots.
		{"gold, a cross red between four keys of the last", "gold, a cross red between four keys red"},
		{"gold, a cross red between four keys of the first", "gold, a cross red between four keys gold"},
		{"gold, a cross red between four keys of the second", "gold, a cross red between four keys red"},
		{"gold, a cross red between four keys of the third", ""},
		{"gold, a cross red charged with a rose of the field", "gold, a cross red charged with a rose gold"},
		{"gold, a cross gold charged with a rose of the second", ""},
		{"gold, a cross red charged with a rose blue between four keys of the third", "gold, a cross red charged with a rose blue between four keys blue"},
		{"gold, a cross red charged with a rose gold between four keys of the third", ""},
		{"gold, a cross red charged with a rose of the second between four keys of the third", ""},
		{"gold, a cross red charged with a rose of the field between four keys of the last", "gold, a cross red charged with a rose gold between four keys gold"},
		{"gold, a cross red charged with a rose of the first between four keys of the second", "gold, a cross red charged with a rose gold between four keys red"},
		{"per pale red and silver, a fess of the second charged with a star of the first", "per pale red and silver, a fess silver charged with a star red"},
		{"per pale red and silver, a fess blue charged with a star of the third between two keys of the second", "per pale red and silver, a fess blue charged with a star blue between two keys silver"},
		{"per pale red and silver, a fess of the third charged with a star blue", ""},
		// Tinctures that are left out once and twice.
		{"blue, a bend between two lions rampant gold", "blue, a bend gold between two lions rampant gold"},
		{"blue, a bend charged with a star gold", "blue, a bend gold charged with a star gold"},
		{"blue, a chief above a star gold", "blue, a chief gold above a star gold"},
		{"gold, a pale charged with a star between two keys black", "gold, a pale black charged with a star black between two keys black"},
		{"gold, a pale red charged with a star between two keys black", "gold, a pale red charged with a star black between two keys black"},
		{"gold, a pale charged with a star red between two keys black", "gold, a pale red charged with a star red between two keys black"},
		// A tincture that is left out is not mentioned before a reference.
		{"blue, a bend between two lions rampant of the last", "blue, a bend blue between two lions rampant blue"},
		{"blue, a bend between two lions rampant of the field", "blue, a bend blue between two lions rampant blue"},
		{"blue, a bend between two lions rampant of the second", ""},
		{"blue, a bend charged with a star between two keys of the last", "blue, a bend blue charged with a star blue between two keys blue"},
		{"blue, a bend charged with a star between two keys of the second", ""},
		{"blue, a bend red charged with a star between two keys of the last", "blue, a bend red charged with a star red between two keys red"},
		{"blue, a bend red charged with a star between two keys of the first", "blue, a bend red charged with a star blue between two keys blue"},
		{"blue, a bend charged with a star red between two keys of the second", "blue, a bend red charged with a star red between two keys red"},
		{"blue, a bend charged with a star red between two keys of the third", ""},
		{"per fess red and gold, a bend charged with a star of the first between two keys of the last", "per fess red and gold, a bend red charged with a star red between two keys red"},
		{"per fess red and gold, a bend between two lions rampant of the field", ""},
		{"per fess red and gold, a bend between two lions rampant of the last", "per fess red and gold, a bend gold between two lions rampant gold"},
	} {
		s, ok := impl.ResolveText(c[0])
		if ok != (c[1] != "") || s != c[1] {
			t.Errorf("ResolveText(%q) = %q, %v instead of %q", c[0], s, ok, c[1])
		}
		if !x.checkSketch(t, c[0]) {
			t.Errorf("%q is not the text of a sketch", c[0])
		}
		k := sketchOf(t, c[0])
		if c[1] == "" {
			rejectReading(t, k)
			continue
		}
		a, ok := impl.ResolveSketch(k)
		isArms(t, a, ok, armsOf(t, c[1]))
	}
}

// TestEverySketchResolves compares the readings of every sketch with some arms with what the
// document says.
func TestEverySketchResolves(t *testing.T) {
	x := newSketchTexts()
	none := 0
	others := map[int]int{}
	for _, a := range goldenArms() {
		everySketch(a, func(k impl.Sketch) {
			kept := slices.Clone(k.Slots)
			want, wantOthers, has := readingsOf(x.armsTexts, k)
			got, ok := impl.ResolveSketch(k)
			if ok != has || got != want {
				t.Errorf("ResolveSketch(%v) = %v, %v instead of %v, %v", k, got, ok, want, has)
			}
			list, ok := impl.OtherReadings(k)
			if ok != has || !slices.Equal(list, wantOthers) {
				t.Errorf("OtherReadings(%v) = %v, %v instead of %v, %v", k, list, ok, wantOthers, has)
			}
			if !slices.Equal(k.Slots, kept) {
				t.Errorf("slots %v instead of %v", k.Slots, kept)
			}
			if !has {
				none++
				return
			}
			others[len(list)]++
			if text, ok := impl.ResolveText(x.write(k)); !ok || text != x.text(want) {
				t.Errorf("ResolveText(%q) = %q, %v", x.write(k), text, ok)
			}
		})
	}
	if none == 0 || len(others) != 3 || others[0] == 0 || others[1] == 0 || others[3] == 0 {
		t.Error("no readings:", none, "numbers of other readings:", others)
	}
}

func TestPlainSketch(t *testing.T) {
	for _, a := range someArms() {
		k, ok := impl.PlainSketch(a)
		tinctures := tincturesOfLayers(a)[1:]
		if !ok || len(k.Slots) != len(tinctures) || !impl.IsValidSketch(k) {
			t.Fatalf("PlainSketch(%v) = %v, %v", a, k, ok)
		}
		golden := slices.Repeat([]int{impl.Gold}, len(tinctures))
		if k.Arms != withTinctures(a, golden) {
			t.Errorf("PlainSketch(%v) = %v", a, k)
		}
		for i, slot := range k.Slots {
			if slot != worded(tinctures[i][0]) {
				t.Errorf("PlainSketch(%v) = %v", a, k)
			}
		}
		text, _ := impl.ArmsText(a)
		if s, ok := impl.SketchText(k); !ok || s != text {
			t.Errorf("SketchText(%v) = %q, %v", k, s, ok)
		}
		got, ok := impl.ResolveSketch(k)
		isArms(t, got, ok, a)
		if list, ok := impl.OtherReadings(k); !ok || len(list) != 0 {
			t.Errorf("OtherReadings(%v) = %v, %v", k, list, ok)
		}
	}
}

func TestShortestSketchExamples(t *testing.T) {
	for _, c := range [][2]string{
		{"blue", "blue"}, {"per pale red and silver", "per pale red and silver"}, {"blue, a star gold", "blue, a star gold"},
		{"blue, a star blue", "blue, a star blue"}, {"ermine, a star ermine", "ermine, a star ermine"}, {"purple, a bend purple", "purple, a bend purple"},
		{"blue, a bend gold between two lions rampant gold", "blue, a bend between two lions rampant gold"},
		{"blue, a bend gold between two lions rampant silver", "blue, a bend gold between two lions rampant silver"},
		{"blue, a bend gold charged with a star gold", "blue, a bend charged with a star gold"},
		{"blue, a chief blue above a star blue", "blue, a chief above a star blue"},
		{"gold, a pale black charged with a star black between two keys black", "gold, a pale charged with a star between two keys black"},
		{"gold, a pale red charged with a star black between two keys black", "gold, a pale red charged with a star between two keys black"},
		{"gold, a pale red charged with a star red between two keys black", "gold, a pale charged with a star red between two keys black"},
		{"gold, a pale red charged with a star black between two keys red", "gold, a pale red charged with a star black between two keys red"},
		{"gold, a pale gold charged with a star gold between two keys gold", "gold, a pale charged with a star between two keys gold"},
		{"barry red and gold, a fess red charged with a star gold between two keys gold", "barry red and gold, a fess red charged with a star between two keys gold"},
	} {
		k, ok := impl.ShortestSketch(armsOf(t, c[0]))
		if text, _ := impl.SketchText(k); !ok || text != c[1] {
			t.Errorf("ShortestSketch(%q) = %v, %v with the text %q instead of %q", c[0], k, ok, text, c[1])
		}
	}
}

// TestShortestSketchStandsForArms checks the guarantee for all tinctures of all layers, on
// fields with and without some of them.
func TestShortestSketchStandsForArms(t *testing.T) {
	for _, shape := range goldenArms() {
		choices := [][]int{nil}
		for range tincturesOfLayers(shape)[1:] {
			var longer [][]int
			for _, choice := range choices {
				for x := impl.Gold; x <= impl.Vair; x++ {
					longer = append(longer, append(slices.Clone(choice), x))
				}
			}
			choices = longer
		}
		for _, choice := range choices {
			a := withTinctures(shape, choice)
			k, ok := impl.ShortestSketch(a)
			if !ok || !impl.IsValidSketch(k) {
				t.Fatalf("ShortestSketch(%v) = %v, %v", a, k, ok)
			}
			got, ok := impl.ResolveSketch(k)
			isArms(t, got, ok, a)
			short, _ := impl.SketchText(k)
			text, _ := impl.ArmsText(a)
			if resolved, ok := impl.ResolveText(short); !ok || resolved != text || len(short) > len(text) {
				t.Errorf("ResolveText(%q) = %q, %v instead of %q", short, resolved, ok, text)
			}
		}
	}
}

// TestShortestSketchIsShortest finds the shortest sketches, and among them the one with the
// smallest text, of all arms for which the sketches with some arms stand. No two of them are
// equally short, since each reference is longer than each word.
func TestShortestSketchIsShortest(t *testing.T) {
	x := newSketchTexts()
	for _, shape := range goldenArms() {
		best, ties := map[impl.Arms]string{}, map[impl.Arms]int{}
		everySketch(shape, func(k impl.Sketch) {
			a, _, has := readingsOf(x.armsTexts, k)
			if !has {
				return
			}
			text := x.write(k)
			known, found := best[a]
			switch {
			case !found || len(text) < len(known):
				best[a], ties[a] = text, 0
			case len(text) == len(known):
				best[a] = min(text, known)
				ties[a]++
			}
		})
		for a, want := range best {
			k, ok := impl.ShortestSketch(a)
			if text, _ := impl.SketchText(k); !ok || text != want {
				t.Errorf("ShortestSketch(%v) = %v, %v with the text %q instead of %q", a, k, ok, text, want)
			}
			if ties[a] > 0 {
				t.Errorf("%d sketches of %v are as short as %q", 1+ties[a], a, want)
			}
		}
	}
}

func TestShortestSketchOfSomeArms(t *testing.T) {
	for _, a := range someArms() {
		k, ok := impl.ShortestSketch(a)
		if !ok || !impl.IsValidSketch(k) {
			t.Fatalf("ShortestSketch(%v) = %v, %v", a, k, ok)
		}
		got, ok := impl.ResolveSketch(k)
		isArms(t, got, ok, a)
		plain, _ := impl.PlainSketch(a)
		if k.Arms != plain.Arms {
			t.Errorf("ShortestSketch(%v) = %v", a, k)
		}
	}
}

func TestOtherReadingsExamples(t *testing.T) {
	for _, c := range []struct {
		text  string
		texts []string
	}{
		{"blue", nil}, {"blue, a star red", nil}, {"blue, a bend red between a star red", nil}, {"blue, a star of the field", nil},
		{"blue, a bend between a star red", []string{"blue, a bend blue between a star red"}},
		{"blue, a chief above a star red", []string{"blue, a chief blue above a star red"}},
		{"per pale gold and blue, a bend between a star red", []string{"per pale gold and blue, a bend blue between a star red"}},
		// The tincture that is mentioned last before is the one of the next slot.
		{"blue, a bend between a star blue", nil}, {"blue, a bend between a star of the field", nil}, {"blue, a bend between a star of the last", nil},
		{"per pale gold and blue, a bend between a star blue", nil}, {"per pale gold and blue, a bend between a star of the last", nil},
		{"per pale gold and blue, a bend between a star of the first", []string{"per pale gold and blue, a bend blue between a star gold"}},
		{"blue, a bend red charged with a star between a key red", nil},
		{"blue, a bend charged with a star between a key blue", nil}, {"blue, a bend charged with a star between a key of the last", nil},
		// Between other slots.
		{"blue, a bend red charged with a star between a key gold", []string{"blue, a bend red charged with a star red between a key gold"}},
		{"blue, a bend red charged with a star between a key of the first", []string{"blue, a bend red charged with a star red between a key blue"}},
		{"blue, a bend charged with a star red between a key of the second", []string{"blue, a bend blue charged with a star red between a key red"}},
		{"blue, a bend charged with a star red between a key blue", []string{"blue, a bend blue charged with a star red between a key blue"}},
		// Twice in a row: each of both has two readings.
		{"blue, a bend charged with a star between a key red", []string{
			"blue, a bend blue charged with a star blue between a key red", "blue, a bend blue charged with a star red between a key red",
			"blue, a bend red charged with a star blue between a key red",
		}},
		{"vair, a chief charged with a star above a key black", []string{
			"vair, a chief black charged with a star vair above a key black", "vair, a chief vair charged with a star black above a key black",
			"vair, a chief vair charged with a star vair above a key black",
		}},
		{"per pale red and gold, a fess charged with a star between a key of the first", []string{
			"per pale red and gold, a fess gold charged with a star gold between a key red",
			"per pale red and gold, a fess gold charged with a star red between a key red",
			"per pale red and gold, a fess red charged with a star gold between a key red",
		}},
	} {
		list, ok := impl.OtherReadings(sketchOf(t, c.text))
		var texts []string
		for _, a := range list {
			text, _ := impl.ArmsText(a)
			texts = append(texts, text)
		}
		if !ok || !slices.Equal(texts, c.texts) {
			t.Errorf("OtherReadings(%q) = %q, %v instead of %q", c.text, texts, ok, c.texts)
		}
	}
}

// TestSketchesAreNewMemory changes results and what lies behind the end of arguments.
func TestSketchesAreNewMemory(t *testing.T) {
	a := armsOf(t, "gold, a pale black charged with a star black between two keys black")
	for _, sketch := range []func() (impl.Sketch, bool){
		func() (impl.Sketch, bool) { return impl.PlainSketch(a) },
		func() (impl.Sketch, bool) { return impl.ShortestSketch(a) },
		func() (impl.Sketch, bool) {
			return impl.ParseSketch("gold, a pale charged with a star between two keys black")
		},
	} {
		first, _ := sketch()
		kept := slices.Clone(first.Slots)
		second, _ := sketch()
		for i := range first.Slots {
			first.Slots[i] = impl.Slot{Mode: math.MaxInt}
		}
		_ = append(first.Slots[:1], impl.Slot{Mode: math.MinInt})
		if third, ok := sketch(); !ok || !slices.Equal(second.Slots, kept) || !slices.Equal(third.Slots, kept) {
			t.Errorf("%v and %v instead of %v", second, third, kept)
		}
	}
	k := sketchOf(t, "gold, a pale charged with a star between two keys black")
	first, _ := impl.OtherReadings(k)
	kept := slices.Clone(first)
	second, _ := impl.OtherReadings(k)
	for i := range first {
		first[i] = impl.Arms{}
	}
	if !slices.Equal(second, kept) || len(kept) != 3 {
		t.Errorf("%v instead of %v", second, kept)
	}
}

// TestSketchesLeaveArguments checks that the slots of a sketch, and those behind its end, are
// not changed, and that those behind its end are not read.
func TestSketchesLeaveArguments(t *testing.T) {
	all := []impl.Slot{leftOut, leftOut, worded(impl.Red), {Mode: 99}, leftOut}
	k := sketchOf(t, "gold, a pale charged with a star between two keys black")
	for n := range len(all) + 1 {
		slots := slices.Clone(all)
		k.Slots = slots[:n]
		valid := impl.IsValidSketch(k)
		_, written := impl.SketchText(k)
		_, resolved := impl.ResolveSketch(k)
		list, read := impl.OtherReadings(k)
		if want := n == 3; valid != want || written != want || resolved != want || read != want || want != (len(list) == 3) {
			t.Errorf("with %d slots: %v, %v, %v, %v, %v", n, valid, written, resolved, list, read)
		}
		if !slices.Equal(slots, all) {
			t.Errorf("slots %v instead of %v", slots, all)
		}
	}
}
