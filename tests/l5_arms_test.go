package tests

import (
	"math"
	"slices"
	"testing"

	"loop.example/g00884/impl"
)

// The groups and fields of most arms in these tests.
var (
	threeRoses  = impl.Group{Count: 3, Kind: impl.KindRose, Tincture: impl.Red}
	twoLions    = impl.Group{Count: 2, Kind: impl.KindLion, Attitude: 2, Tincture: impl.Gold}
	oneEagle    = impl.Group{Count: 1, Kind: impl.KindEagle, Attitude: 1, Tincture: impl.Black}
	sixStars    = impl.Group{Count: 6, Kind: impl.KindStar, Tincture: impl.Vair}
	plainBlue   = impl.Field{First: impl.Blue}
	paleGoldRed = impl.Field{Division: impl.DivPale, Line: impl.LineWavy, First: impl.Gold, Second: impl.Red}
)

// someArms returns valid arms: every ordinary and every line, with both groups, each of them
// alone and none, on fields with one and with two tinctures.
func someArms() []impl.Arms {
	var list []impl.Arms
	fields := []impl.Field{plainBlue, {First: impl.Gold}, paleGoldRed, {Division: impl.DivBarry, First: impl.Vair, Second: impl.Gold}}
	for _, f := range fields {
		for _, around := range []impl.Group{{}, twoLions, sixStars} {
			list = append(list, impl.Arms{Field: f, Around: around})
			for ordinary := impl.OrdPale; ordinary <= impl.OrdChief; ordinary++ {
				for line := range 5 {
					for i, on := range []impl.Group{{}, threeRoses, oneEagle} {
						tincture := 1 + (ordinary+3*line+i)%9
						list = append(list, impl.Arms{
							Field: f, Ordinary: ordinary, Line: line, Tincture: tincture, On: on, Around: around,
						})
					}
				}
			}
		}
	}
	return list
}

// fewArms returns some of the arms of someArms, with every combination of layers.
func fewArms() []impl.Arms {
	list := []impl.Arms{{Field: plainBlue}, {Field: paleGoldRed}, {Field: paleGoldRed, Around: twoLions}}
	for i, a := range someArms() {
		if i%13 == 0 {
			list = append(list, a)
		}
	}
	return list
}

// noArms returns invalid arms; most of them have a single wrong part.
func noArms() []impl.Arms {
	bend := impl.Arms{Field: plainBlue, Ordinary: impl.OrdBend, Tincture: impl.Gold}
	list := []impl.Arms{
		{}, {Field: plainBlue, Line: 1}, {Field: plainBlue, Line: 4}, {Field: plainBlue, Tincture: 1}, {Field: plainBlue, Tincture: 9},
		{Field: plainBlue, On: threeRoses}, {Field: plainBlue, On: threeRoses, Around: threeRoses}, {Around: threeRoses},
		{Ordinary: 1, Tincture: 1}, {Field: plainBlue, On: impl.Group{Count: 1}}, {Field: paleGoldRed, Line: 2, Around: twoLions},
	}
	for _, f := range noFields() {
		changed := bend
		changed.Field = f
		list = append(list, changed, impl.Arms{Field: f}, impl.Arms{Field: f, Around: oneEagle})
	}
	for _, g := range noGroups() {
		on, around := bend, bend
		on.On, around.Around = g, g
		list = append(list, on, around, impl.Arms{Field: plainBlue, Around: g}, impl.Arms{Field: plainBlue, On: g})
	}
	for _, x := range append(farNumbers(), 8, 9, -2) {
		list = append(list, impl.Arms{Field: plainBlue, Ordinary: x}, impl.Arms{Field: plainBlue, Ordinary: x, Tincture: impl.Gold},
			impl.Arms{Field: plainBlue, Ordinary: x, Tincture: impl.Gold, On: oneEagle, Around: twoLions})
	}
	for ordinary := impl.OrdPale; ordinary <= impl.OrdChief; ordinary++ {
		for _, x := range append(farNumbers(), 5, 6, 9) {
			list = append(list, impl.Arms{Field: paleGoldRed, Ordinary: ordinary, Line: x, Tincture: impl.Green})
		}
		for _, x := range noTinctures() {
			list = append(list, impl.Arms{Field: paleGoldRed, Ordinary: ordinary, Line: 1, Tincture: x})
		}
	}
	for _, x := range append(farNumbers(), 1, 5, 9) {
		list = append(list, impl.Arms{Field: plainBlue, Line: x}, impl.Arms{Field: plainBlue, Tincture: x},
			impl.Arms{Field: paleGoldRed, Line: x, Around: twoLions}, impl.Arms{Field: paleGoldRed, Tincture: x, Around: twoLions})
	}
	return list
}

// armsFollowRules reports whether arms are valid as the document says it.
func armsFollowRules(a impl.Arms, fields map[impl.Field]string, groups map[impl.Group]string) bool {
	none := impl.Group{}
	_, field := fields[a.Field]
	_, on := groups[a.On]
	_, around := groups[a.Around]
	if !field || !around && a.Around != none {
		return false
	}
	if a.Ordinary == 0 {
		return a.Line == 0 && a.Tincture == 0 && a.On == none
	}
	return slices.Contains([]int{1, 2, 3, 4, 5, 6, 7}, a.Ordinary) && slices.Contains([]int{0, 1, 2, 3, 4}, a.Line) &&
		slices.Contains([]int{1, 2, 3, 4, 5, 6, 7, 8, 9}, a.Tincture) && (on || a.On == none)
}

// tincturesOfLayers returns the tinctures of every layer of valid arms.
func tincturesOfLayers(a impl.Arms) [][]int {
	layers := [][]int{{a.Field.First}}
	if a.Field.Division != 0 {
		layers = [][]int{{a.Field.First, a.Field.Second}}
	}
	if a.Ordinary != 0 {
		layers = append(layers, []int{a.Tincture})
	}
	if a.On.Count != 0 {
		layers = append(layers, []int{a.On.Tincture})
	}
	if a.Around.Count != 0 {
		layers = append(layers, []int{a.Around.Tincture})
	}
	return layers
}

// withoutTinctures returns the numbers of arms that are not tinctures.
func withoutTinctures(a impl.Arms) [10]int {
	return [10]int{
		a.Field.Division, a.Field.Line, a.Ordinary, a.Line, a.On.Count, a.On.Kind, a.On.Attitude, a.Around.Count, a.Around.Kind,
		a.Around.Attitude,
	}
}

// isArms checks that a result is valid arms as wanted.
func isArms(t *testing.T, got impl.Arms, ok bool, want impl.Arms) {
	t.Helper()
	if !ok || got != want || !impl.IsValidArms(got) {
		t.Errorf("%v, %v instead of %v", got, ok, want)
	}
}

// isNoArms checks that a result is the zero Arms and false.
func isNoArms(t *testing.T, got impl.Arms, ok bool) {
	t.Helper()
	if ok || got != (impl.Arms{}) {
		t.Errorf("%v, %v instead of a failure", got, ok)
	}
}

func TestOrdinaryConstants(t *testing.T) {
	ordinaries := []int{
		impl.OrdNone, impl.OrdPale, impl.OrdFess, impl.OrdBend, impl.OrdChevron, impl.OrdCross, impl.OrdSaltire, impl.OrdChief,
	}
	if !slices.Equal(ordinaries, []int{0, 1, 2, 3, 4, 5, 6, 7}) {
		t.Error(ordinaries)
	}
}

// TestIsValidArmsInAndNearRanges compares arms whose parts are in or near what is allowed with
// the rules of the document.
func TestIsValidArmsInAndNearRanges(t *testing.T) {
	fields, groups := everyField(), everyGroup()
	someGroups := []impl.Group{{}, threeRoses, twoLions, {Count: 1}, {Count: 7, Kind: 4, Tincture: 1}, {Attitude: 1}, {Tincture: 3}}
	valid := 0
	for _, f := range []impl.Field{plainBlue, paleGoldRed, {}, {First: 10}, {First: 1, Second: 2}, {Division: 1, First: 2, Second: 2}} {
		for ordinary := -2; ordinary <= 9; ordinary++ {
			for line := -2; line <= 6; line++ {
				for tincture := -1; tincture <= 11; tincture++ {
					for _, on := range someGroups {
						for _, around := range someGroups {
							a := impl.Arms{Field: f, Ordinary: ordinary, Line: line, Tincture: tincture, On: on, Around: around}
							want := armsFollowRules(a, fields, groups)
							if impl.IsValidArms(a) != want {
								t.Fatalf("IsValidArms(%v) = %v", a, !want)
							}
							if want {
								valid++
							}
						}
					}
				}
			}
		}
	}
	if valid != 2*(7*5*9*3*3+3) {
		t.Error(valid)
	}
}

func TestIsValidArmsWithEveryFieldAndGroup(t *testing.T) {
	for f := range everyField() {
		if !impl.IsValidArms(impl.Arms{Field: f}) || !impl.IsValidArms(impl.Arms{Field: f, Ordinary: 7, Line: 4, Tincture: 9, On: oneEagle}) {
			t.Errorf("the arms with the field %v are not valid", f)
		}
	}
	for g := range everyGroup() {
		on := impl.Arms{Field: paleGoldRed, Ordinary: impl.OrdPale, Tincture: impl.Gold, On: g}
		both := on
		both.Around = g
		if !impl.IsValidArms(impl.Arms{Field: plainBlue, Around: g}) || !impl.IsValidArms(on) || !impl.IsValidArms(both) {
			t.Errorf("the arms with the group %v are not valid", g)
		}
		if impl.IsValidArms(impl.Arms{Field: plainBlue, On: g}) {
			t.Errorf("the arms with the group %v on nothing are valid", g)
		}
	}
}

func TestLayersExamples(t *testing.T) {
	for _, c := range []struct {
		a         impl.Arms
		layers    int
		tinctures []int
		charges   int
	}{
		{impl.Arms{Field: plainBlue}, 1, []int{4}, 0},
		{impl.Arms{Field: paleGoldRed}, 1, []int{1, 3}, 0},
		{impl.Arms{Field: plainBlue, Around: twoLions}, 2, []int{4, 1}, 2},
		{impl.Arms{Field: paleGoldRed, Around: twoLions}, 2, []int{1, 3, 1}, 2},
		{impl.Arms{Field: plainBlue, Ordinary: 1, Tincture: 9}, 2, []int{4, 9}, 0},
		{impl.Arms{Field: paleGoldRed, Ordinary: 7, Line: 4, Tincture: 3}, 2, []int{1, 3, 3}, 0},
		{impl.Arms{Field: plainBlue, Ordinary: 2, Tincture: 1, On: threeRoses}, 3, []int{4, 1, 3}, 3},
		{impl.Arms{Field: plainBlue, Ordinary: 2, Tincture: 1, Around: twoLions}, 3, []int{4, 1, 1}, 2},
		{impl.Arms{Field: paleGoldRed, Ordinary: 3, Tincture: 8, On: oneEagle}, 3, []int{1, 3, 8, 5}, 1},
		{impl.Arms{Field: paleGoldRed, Ordinary: 5, Tincture: 8, Around: oneEagle}, 3, []int{1, 3, 8, 5}, 1},
		{impl.Arms{Field: plainBlue, Ordinary: 3, Tincture: 1, On: threeRoses, Around: twoLions}, 4, []int{4, 1, 3, 1}, 5},
		{impl.Arms{Field: plainBlue, Ordinary: 3, Tincture: 1, On: twoLions, Around: threeRoses}, 4, []int{4, 1, 1, 3}, 5},
		{impl.Arms{Field: paleGoldRed, Ordinary: 6, Line: 1, Tincture: 2, On: sixStars, Around: sixStars}, 4, []int{1, 3, 2, 9, 9}, 12},
		{impl.Arms{Field: plainBlue, Ordinary: 4, Tincture: 4, On: impl.Group{Count: 1, Kind: 8, Tincture: 4}, Around: impl.Group{Count: 1, Kind: 7, Tincture: 4}}, 4, []int{4, 4, 4, 4}, 2},
	} {
		if n, ok := impl.LayerCount(c.a); !ok || n != c.layers {
			t.Errorf("LayerCount(%v) = %d, %v", c.a, n, ok)
		}
		if list, ok := impl.ArmsTinctures(c.a); !ok || !slices.Equal(list, c.tinctures) {
			t.Errorf("ArmsTinctures(%v) = %v, %v", c.a, list, ok)
		}
		if n, ok := impl.ChargeTotal(c.a); !ok || n != c.charges {
			t.Errorf("ChargeTotal(%v) = %d, %v", c.a, n, ok)
		}
	}
}

func TestLayersOfSomeArms(t *testing.T) {
	for _, a := range someArms() {
		layers := tincturesOfLayers(a)
		if n, ok := impl.LayerCount(a); !ok || n != len(layers) {
			t.Errorf("LayerCount(%v) = %d, %v", a, n, ok)
		}
		list, ok := impl.ArmsTinctures(a)
		if !ok || !slices.Equal(list, slices.Concat(layers...)) {
			t.Errorf("ArmsTinctures(%v) = %v, %v", a, list, ok)
		}
		ofField, _ := impl.FieldTinctures(a.Field)
		if !slices.Equal(list[:len(ofField)], ofField) {
			t.Errorf("ArmsTinctures(%v) = %v starts without the field", a, list)
		}
		if n, ok := impl.ChargeTotal(a); !ok || n != a.On.Count+a.Around.Count {
			t.Errorf("ChargeTotal(%v) = %d, %v", a, n, ok)
		}
	}
}

func TestArmsTincturesAreNewMemory(t *testing.T) {
	for _, a := range fewArms() {
		list, _ := impl.ArmsTinctures(a)
		kept := slices.Clone(list)
		for i := range list {
			list[i] = 77
		}
		_ = append(list, 78)
		if again, ok := impl.ArmsTinctures(a); !ok || !slices.Equal(again, kept) {
			t.Errorf("ArmsTinctures(%v) = %v after a change", a, again)
		}
	}
}

func TestWithField(t *testing.T) {
	some, none := someFields(), noFields()
	for i, a := range someArms() {
		f := some[i%len(some)]
		want := a
		want.Field = f
		b, ok := impl.WithField(a, f)
		isArms(t, b, ok, want)
		b, ok = impl.WithField(a, a.Field)
		isArms(t, b, ok, a)
		b, ok = impl.WithField(a, none[i%len(none)])
		isNoArms(t, b, ok)
	}
	for _, a := range []impl.Arms{{Field: plainBlue}, {Field: paleGoldRed, Ordinary: 7, Line: 4, Tincture: 9, On: oneEagle, Around: sixStars}} {
		for f := range everyField() {
			want := a
			want.Field = f
			b, ok := impl.WithField(a, f)
			isArms(t, b, ok, want)
		}
		for _, f := range none {
			b, ok := impl.WithField(a, f)
			isNoArms(t, b, ok)
		}
	}
}

// TestWithOrdinary gives some arms all ordinaries, lines and tinctures in and near what is
// allowed.
func TestWithOrdinary(t *testing.T) {
	for _, a := range fewArms() {
		for ordinary := -1; ordinary <= 8; ordinary++ {
			for line := -1; line <= 5; line++ {
				for tincture := -1; tincture <= 10; tincture++ {
					want := impl.Arms{Field: a.Field, Ordinary: ordinary, Line: line, Tincture: tincture, On: a.On, Around: a.Around}
					valid := 1 <= ordinary && ordinary <= 7 && 0 <= line && line <= 4 && 1 <= tincture && tincture <= 9
					if ordinary == 0 {
						want.On = impl.Group{}
						valid = line == 0 && tincture == 0
					}
					b, ok := impl.WithOrdinary(a, ordinary, line, tincture)
					if valid {
						isArms(t, b, ok, want)
					} else {
						isNoArms(t, b, ok)
					}
				}
			}
		}
	}
}

func TestWithOrdinaryRemovesOn(t *testing.T) {
	a := impl.Arms{Field: paleGoldRed, Ordinary: impl.OrdFess, Line: 2, Tincture: impl.Vair, On: oneEagle, Around: twoLions}
	bare := impl.Arms{Field: paleGoldRed, Around: twoLions}
	b, ok := impl.WithOrdinary(a, impl.OrdNone, 0, 0)
	isArms(t, b, ok, bare)
	// The group On is gone for good.
	b, ok = impl.WithOrdinary(b, impl.OrdFess, 2, impl.Vair)
	isArms(t, b, ok, impl.Arms{Field: paleGoldRed, Ordinary: impl.OrdFess, Line: 2, Tincture: impl.Vair, Around: twoLions})
	b, ok = impl.WithOrdinary(bare, impl.OrdNone, 0, 0)
	isArms(t, b, ok, bare)
	for _, x := range append(farNumbers(), 1, 2, 9) {
		b, ok = impl.WithOrdinary(a, impl.OrdNone, x, 0)
		isNoArms(t, b, ok)
		b, ok = impl.WithOrdinary(a, impl.OrdNone, 0, x)
		isNoArms(t, b, ok)
	}
	for _, x := range farNumbers() {
		b, ok = impl.WithOrdinary(a, x, 0, 1)
		isNoArms(t, b, ok)
		b, ok = impl.WithOrdinary(a, x, 0, 0)
		isNoArms(t, b, ok)
		b, ok = impl.WithOrdinary(a, impl.OrdCross, x, 1)
		isNoArms(t, b, ok)
		b, ok = impl.WithOrdinary(a, impl.OrdCross, 0, x)
		isNoArms(t, b, ok)
	}
}

func TestWithGroups(t *testing.T) {
	choices := []impl.Group{
		{}, threeRoses, twoLions, oneEagle, sixStars, {Count: 1}, {Count: 7, Kind: 5, Tincture: 1}, {Count: 2, Kind: 1, Tincture: 1},
		{Attitude: 1}, {Tincture: 1}, {Count: 1, Kind: 4, Attitude: 1, Tincture: 1}, {Kind: 4},
	}
	for _, a := range fewArms() {
		for i, on := range choices {
			for j, around := range choices {
				b, ok := impl.WithGroups(a, on, around)
				if i < 5 && j < 5 && (i == 0 || a.Ordinary != 0) {
					want := impl.Arms{Field: a.Field, Ordinary: a.Ordinary, Line: a.Line, Tincture: a.Tincture, On: on, Around: around}
					isArms(t, b, ok, want)
				} else {
					isNoArms(t, b, ok)
				}
			}
		}
	}
	a := impl.Arms{Field: plainBlue, Ordinary: impl.OrdBend, Tincture: impl.Gold, On: threeRoses, Around: twoLions}
	for _, g := range noGroups() {
		b, ok := impl.WithGroups(a, g, a.Around)
		isNoArms(t, b, ok)
		b, ok = impl.WithGroups(a, a.On, g)
		isNoArms(t, b, ok)
		b, ok = impl.WithGroups(impl.Arms{Field: plainBlue}, impl.Group{}, g)
		isNoArms(t, b, ok)
	}
	for g := range everyGroup() {
		b, ok := impl.WithGroups(a, g, impl.Group{})
		isArms(t, b, ok, impl.Arms{Field: plainBlue, Ordinary: impl.OrdBend, Tincture: impl.Gold, On: g})
		b, ok = impl.WithGroups(impl.Arms{Field: paleGoldRed, Around: oneEagle}, impl.Group{}, g)
		isArms(t, b, ok, impl.Arms{Field: paleGoldRed, Around: g})
		b, ok = impl.WithGroups(impl.Arms{Field: plainBlue}, g, g)
		isNoArms(t, b, ok)
	}
}

func TestReplaceTinctureExamples(t *testing.T) {
	a := impl.Arms{Field: paleGoldRed, Ordinary: impl.OrdChief, Line: 1, Tincture: impl.Red, On: threeRoses, Around: twoLions}
	with := func(first, second, tincture, on, around int) impl.Arms {
		b := a
		b.Field.First, b.Field.Second, b.Tincture, b.On.Tincture, b.Around.Tincture = first, second, tincture, on, around
		return b
	}
	for _, c := range []struct {
		old, x int
		want   impl.Arms
	}{
		{impl.Red, impl.Blue, with(1, 4, 4, 4, 1)},
		{impl.Gold, impl.Vair, with(9, 3, 3, 3, 9)},
		{impl.Red, impl.Red, a}, {impl.Gold, impl.Gold, a}, {impl.Green, impl.Green, a},
		{impl.Green, impl.Red, a}, {impl.Vair, impl.Gold, a}, {impl.Blue, impl.Ermine, a},
		{impl.Red, impl.Gold, impl.Arms{}}, {impl.Gold, impl.Red, impl.Arms{}},
	} {
		b, ok := impl.ReplaceTincture(a, c.old, c.x)
		if c.want == (impl.Arms{}) {
			isNoArms(t, b, ok)
		} else {
			isArms(t, b, ok, c.want)
		}
	}
	// A plain field keeps its missing second tincture, and no group and no ordinary their
	// missing ones.
	b, ok := impl.ReplaceTincture(impl.Arms{Field: plainBlue}, impl.Blue, impl.Gold)
	isArms(t, b, ok, impl.Arms{Field: impl.Field{First: impl.Gold}})
	b, ok = impl.ReplaceTincture(impl.Arms{Field: plainBlue, Around: oneEagle}, impl.Black, impl.Blue)
	isArms(t, b, ok, impl.Arms{Field: plainBlue, Around: impl.Group{Count: 1, Kind: 2, Attitude: 1, Tincture: impl.Blue}})
	for _, x := range noTinctures() {
		for _, y := range []int{x, 1, 3, 4, 9} {
			for _, arms := range []impl.Arms{a, {Field: plainBlue}, {Field: plainBlue, Ordinary: 1, Tincture: 4}} {
				b, ok = impl.ReplaceTincture(arms, x, y)
				isNoArms(t, b, ok)
				b, ok = impl.ReplaceTincture(arms, y, x)
				isNoArms(t, b, ok)
			}
		}
	}
}

// TestReplaceTinctureKeepsShape replaces every tincture by every one in some arms.
func TestReplaceTinctureKeepsShape(t *testing.T) {
	for _, a := range someArms() {
		before := slices.Concat(tincturesOfLayers(a)...)
		for old := 1; old <= 9; old++ {
			for x := 1; x <= 9; x++ {
				want := slices.Clone(before)
				for i := range want {
					if want[i] == old {
						want[i] = x
					}
				}
				b, ok := impl.ReplaceTincture(a, old, x)
				if a.Field.Division != 0 && want[0] == want[1] {
					isNoArms(t, b, ok)
					continue
				}
				after, _ := impl.ArmsTinctures(b)
				if !ok || !slices.Equal(after, want) || withoutTinctures(a) != withoutTinctures(b) {
					t.Fatalf("ReplaceTincture(%v, %d, %d) = %v, %v", a, old, x, b, ok)
				}
				if same, ok := impl.SameShape(a, b); !ok || !same {
					t.Fatalf("ReplaceTincture(%v, %d, %d) = %v has another shape", a, old, x, b)
				}
				if same, ok := impl.SameShape(b, a); !ok || !same {
					t.Fatalf("%v and %v have another shape", b, a)
				}
			}
		}
	}
}

func TestSimplestExamples(t *testing.T) {
	plain := impl.Arms{Field: plainBlue}
	pale := impl.Arms{Field: paleGoldRed}
	withStars := impl.Arms{Field: plainBlue, Around: sixStars}
	withLions := impl.Arms{Field: paleGoldRed, Around: twoLions}
	withEagle := impl.Arms{Field: paleGoldRed, Around: oneEagle}
	withFess := impl.Arms{Field: paleGoldRed, Ordinary: 2, Line: 1, Tincture: 9}
	fessRoses := impl.Arms{Field: plainBlue, Ordinary: 2, Tincture: 9, On: threeRoses}
	fessEagle := impl.Arms{Field: plainBlue, Ordinary: 2, Tincture: 9, Around: oneEagle}
	full := impl.Arms{Field: plainBlue, Ordinary: 2, Tincture: 9, On: oneEagle, Around: oneEagle}
	for _, c := range []struct {
		list []impl.Arms
		want int
	}{
		{[]impl.Arms{full}, 0}, {[]impl.Arms{plain}, 0},
		{[]impl.Arms{full, plain}, 1}, {[]impl.Arms{plain, full}, 0},
		{[]impl.Arms{plain, pale}, 0}, {[]impl.Arms{pale, plain}, 0}, {[]impl.Arms{full, pale, plain, pale}, 1},
		{[]impl.Arms{withStars, withLions, withEagle}, 2}, {[]impl.Arms{withLions, withStars, withEagle}, 2},
		{[]impl.Arms{withEagle, withStars, withEagle}, 0}, {[]impl.Arms{withStars, withEagle, withEagle}, 1},
		{[]impl.Arms{withEagle, withFess, withStars, withFess}, 1},
		// Fewer layers come before fewer charges.
		{[]impl.Arms{fessEagle, withStars}, 1}, {[]impl.Arms{withStars, fessEagle}, 0},
		{[]impl.Arms{full, fessRoses}, 1}, {[]impl.Arms{fessRoses, full}, 0}, {[]impl.Arms{fessRoses, full, fessEagle}, 2},
		{[]impl.Arms{fessRoses, withStars, withStars}, 1}, {[]impl.Arms{full, fessRoses, withStars, withLions, pale}, 4},
		{[]impl.Arms{withEagle, pale, withEagle, plain, withFess}, 1},
	} {
		if i, ok := impl.Simplest(c.list); !ok || i != c.want {
			t.Errorf("Simplest(%v) = %d, %v instead of %d", c.list, i, ok, c.want)
		}
	}
	for _, list := range [][]impl.Arms{nil, {}} {
		if i, ok := impl.Simplest(list); ok || i != 0 {
			t.Errorf("Simplest(%v) = %d, %v", list, i, ok)
		}
	}
}

// TestSimplestOfParts searches parts of a list of arms, of up to 20, and compares what it finds
// with all the others.
func TestSimplestOfParts(t *testing.T) {
	all := someArms()
	cost := func(a impl.Arms) int { return 100*len(tincturesOfLayers(a)) + a.On.Count + a.Around.Count }
	for start := range all {
		list := make([]impl.Arms, 1+start%20)
		for i := range list {
			list[i] = all[(start+i*(7+start%5))%len(all)]
		}
		kept := slices.Clone(list)
		best, ok := impl.Simplest(list)
		if !ok || best < 0 || best >= len(list) {
			t.Fatalf("Simplest(%v) = %d, %v", list, best, ok)
		}
		for i := range list {
			if cost(list[i]) < cost(list[best]) || cost(list[i]) == cost(list[best]) && i < best {
				t.Fatalf("Simplest(%v) = %d instead of %d", list, best, i)
			}
		}
		if !slices.Equal(list, kept) {
			t.Fatalf("Simplest changed %v", kept)
		}
	}
}

func TestSimplestOfLongLists(t *testing.T) {
	list := slices.Repeat([]impl.Arms{{Field: plainBlue, Around: twoLions}}, 30)
	for n := 1; n <= 20; n++ {
		changed := slices.Clone(list[:n])
		changed[n-1] = impl.Arms{Field: paleGoldRed}
		if i, ok := impl.Simplest(changed); !ok || i != n-1 {
			t.Errorf("Simplest of %d arms = %d, %v", n, i, ok)
		}
		if i, ok := impl.Simplest(list[:n]); !ok || i != 0 {
			t.Errorf("Simplest of %d equal arms = %d, %v", n, i, ok)
		}
	}
	for n := 21; n <= 30; n++ {
		if i, ok := impl.Simplest(list[:n]); ok || i != 0 {
			t.Errorf("Simplest of %d arms = %d, %v", n, i, ok)
		}
	}
	if i, ok := impl.Simplest(slices.Repeat(list, 1000)); ok || i != 0 {
		t.Errorf("Simplest of many arms = %d, %v", i, ok)
	}
	// What lies behind the end of a list is not read.
	list[20] = impl.Arms{}
	list[21] = impl.Arms{Field: plainBlue}
	if i, ok := impl.Simplest(list[:20]); !ok || i != 0 || list[20] != (impl.Arms{}) {
		t.Errorf("Simplest = %d, %v", i, ok)
	}
}

func TestSimplestRejectsInvalidArmsAnywhere(t *testing.T) {
	none := noArms()
	for n := 1; n <= 20; n++ {
		for i := range n {
			list := slices.Repeat([]impl.Arms{{Field: plainBlue, Around: twoLions}}, n)
			list[0] = impl.Arms{Field: plainBlue}
			for j := range 5 {
				list[i] = none[(31*i+17*n+j)%len(none)]
				if best, ok := impl.Simplest(list); ok || best != 0 {
					t.Errorf("Simplest(%v) = %d, %v", list, best, ok)
				}
			}
			// Simpler arms before or behind the invalid ones do not make up for them.
			for k := range n {
				list = slices.Repeat([]impl.Arms{{Field: plainBlue, Around: twoLions}}, n)
				list[k] = impl.Arms{Field: plainBlue}
				list[i] = impl.Arms{}
				if best, ok := impl.Simplest(list); ok || best != 0 {
					t.Errorf("Simplest(%v) = %d, %v", list, best, ok)
				}
			}
		}
	}
}

func TestSameShapeExamples(t *testing.T) {
	a := impl.Arms{Field: paleGoldRed, Ordinary: impl.OrdBend, Line: 1, Tincture: impl.Blue, On: threeRoses, Around: twoLions}
	changed := func(change func(b *impl.Arms)) impl.Arms {
		b := a
		change(&b)
		return b
	}
	same := []impl.Arms{
		a,
		changed(func(b *impl.Arms) { b.Field.First = impl.Silver }),
		changed(func(b *impl.Arms) { b.Field.Second = impl.Vair }),
		changed(func(b *impl.Arms) { b.Field.First, b.Field.Second = b.Field.Second, b.Field.First }),
		changed(func(b *impl.Arms) { b.Tincture = impl.Gold }),
		changed(func(b *impl.Arms) { b.On.Tincture = impl.Gold }),
		changed(func(b *impl.Arms) { b.Around.Tincture = impl.Purple }),
		changed(func(b *impl.Arms) { b.On.Tincture, b.Around.Tincture, b.Tincture, b.Field.First = 9, 8, 7, 6 }),
	}
	other := []impl.Arms{
		changed(func(b *impl.Arms) { b.Field = plainBlue }),
		changed(func(b *impl.Arms) { b.Field.Division = impl.DivFess }),
		changed(func(b *impl.Arms) { b.Field.Line = impl.LineStraight }),
		changed(func(b *impl.Arms) { b.Ordinary = impl.OrdPale }),
		changed(func(b *impl.Arms) { b.Line = 0 }),
		changed(func(b *impl.Arms) { b.Line = 4 }),
		changed(func(b *impl.Arms) { b.On.Count = 2 }),
		changed(func(b *impl.Arms) { b.On.Kind = impl.KindStar }),
		changed(func(b *impl.Arms) { b.Around.Count = 1 }),
		changed(func(b *impl.Arms) { b.Around.Kind = impl.KindEagle }),
		changed(func(b *impl.Arms) { b.Around.Attitude = 1 }),
		changed(func(b *impl.Arms) { b.On = impl.Group{} }),
		changed(func(b *impl.Arms) { b.Around = impl.Group{} }),
		changed(func(b *impl.Arms) { b.On, b.Around = b.Around, b.On }),
		{Field: paleGoldRed, Around: twoLions}, {Field: paleGoldRed}, {Field: plainBlue},
	}
	for i, b := range append(slices.Clone(same), other...) {
		for _, c := range same {
			for _, pair := range [][2]impl.Arms{{b, c}, {c, b}} {
				if got, ok := impl.SameShape(pair[0], pair[1]); !ok || got != (i < len(same)) {
					t.Errorf("SameShape(%v) = %v, %v", pair, got, ok)
				}
			}
		}
	}
}

func TestSameShapeOfEveryPair(t *testing.T) {
	list := someArms()
	for i, a := range list {
		for j, b := range list {
			if (i+j)%3 != 0 && i != j {
				continue
			}
			want := withoutTinctures(a) == withoutTinctures(b)
			if same, ok := impl.SameShape(a, b); !ok || same != want {
				t.Fatalf("SameShape(%v, %v) = %v, %v", a, b, same, ok)
			}
		}
	}
}

func TestInvalidArms(t *testing.T) {
	valid := impl.Arms{Field: paleGoldRed, Ordinary: 1, Tincture: 4, On: oneEagle}
	for _, a := range noArms() {
		if impl.IsValidArms(a) {
			t.Errorf("%v is valid", a)
		}
		if n, ok := impl.LayerCount(a); ok || n != 0 {
			t.Errorf("LayerCount(%v) = %d, %v", a, n, ok)
		}
		if list, ok := impl.ArmsTinctures(a); ok || len(list) != 0 {
			t.Errorf("ArmsTinctures(%v) = %v, %v", a, list, ok)
		}
		if n, ok := impl.ChargeTotal(a); ok || n != 0 {
			t.Errorf("ChargeTotal(%v) = %d, %v", a, n, ok)
		}
		if i, ok := impl.Simplest([]impl.Arms{a}); ok || i != 0 {
			t.Errorf("Simplest(%v) = %d, %v", a, i, ok)
		}
		for _, pair := range [][2]impl.Arms{{a, valid}, {valid, a}, {a, a}} {
			if same, ok := impl.SameShape(pair[0], pair[1]); ok || same {
				t.Errorf("SameShape(%v) = %v, %v", pair, same, ok)
			}
		}
	}
}

// TestChangesOfInvalidArms tries changes that would make the result valid: they fail, since the
// arms to be changed are not valid.
func TestChangesOfInvalidArms(t *testing.T) {
	for _, a := range noArms() {
		b, ok := impl.WithField(a, plainBlue)
		isNoArms(t, b, ok)
		b, ok = impl.WithOrdinary(a, impl.OrdNone, 0, 0)
		isNoArms(t, b, ok)
		b, ok = impl.WithOrdinary(a, impl.OrdPale, 0, 1)
		isNoArms(t, b, ok)
		b, ok = impl.WithGroups(a, impl.Group{}, impl.Group{})
		isNoArms(t, b, ok)
		b, ok = impl.WithGroups(a, oneEagle, threeRoses)
		isNoArms(t, b, ok)
		for _, x := range []int{a.Field.First, a.Field.Second, a.Tincture, a.On.Tincture, a.Around.Tincture, 0, 1, 4, math.MinInt} {
			b, ok = impl.ReplaceTincture(a, x, 2)
			isNoArms(t, b, ok)
			b, ok = impl.ReplaceTincture(a, 2, x)
			isNoArms(t, b, ok)
		}
	}
}
