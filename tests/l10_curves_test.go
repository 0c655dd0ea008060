package tests

import (
	"math"
	"slices"
	"testing"

	"loop.example/g00884/impl"
)

// lineCount and divisionCount are the numbers of lines and of divisions, and of ordinaries, each
// with the one that is no line, no division and no ordinary.
const (
	lineCount     = 5
	divisionCount = 8
	ordinaryCount = 8
)

// offsetsOfLines returns the document's offsets of every line over one period.
func offsetsOfLines() [lineCount][]int {
	return [lineCount][]int{{0}, {0, 1, 1, 0}, {0, 1, 1, 0, 0, -1, -1, 0}, {0, 0, 2, 2}, {0, 1, 2, 1}}
}

// linedConditions returns for every division the document's condition for part 0 with a line.
func linedConditions(line int) []func(x, y int) bool {
	offsets := offsetsOfLines()[line]
	o := func(t int) int { return offsets[t%len(offsets)] }
	straight := partConditions()
	falling := func(x, y int) int { return slant(x, y) - 40*o(x+y) }
	rising := func(x, y int) int { return otherSlant(x, y) - 40*o(19-x+y) }
	return []func(x, y int) bool{
		straight[0],
		func(x, y int) bool { return straight[1](x-o(y), y) },
		func(x, y int) bool { return straight[2](x, y-o(x)) },
		func(x, y int) bool { return falling(x, y) > 0 },
		func(x, y int) bool { return straight[4](x-o(y), y-o(x)) },
		func(x, y int) bool {
			first, second := falling(x, y) > 0, rising(x, y) > 0
			return first && second || !first && !second
		},
		func(x, y int) bool { return straight[6](min(max(x-o(y), 0), 19), y) },
		func(x, y int) bool { return straight[7](x, min(max(y-o(x), 0), 23)) },
	}
}

// linedOrdinaryConditions returns for every ordinary the document's condition with a line.
func linedOrdinaryConditions(line int) []func(x, y int) bool {
	offsets := offsetsOfLines()[line]
	o := func(t int) int { return offsets[t%len(offsets)] }
	straight := ordinaryConditions()
	falling := func(x, y int) int { return size(slant(x, y) - 40*o(x+y)) }
	rising := func(x, y int) int { return size(otherSlant(x, y) - 40*o(19-x+y)) }
	return []func(x, y int) bool{
		straight[0],
		func(x, y int) bool { return straight[1](x-o(y), y) },
		func(x, y int) bool { return straight[2](x, y-o(x)) },
		func(x, y int) bool { return falling(x, y) <= 160 },
		func(x, y int) bool {
			n := 2*y + 1 - size(2*x-19) - 2*o(x)
			return 11 <= n && n <= 22
		},
		func(x, y int) bool { return straight[5](x-o(y), y-o(x)) },
		func(x, y int) bool { return falling(x, y) <= 120 || rising(x, y) <= 120 },
		func(x, y int) bool { return straight[7](x, y-o(x)) },
	}
}

// lined returns a field with a division and a line; without a division it has no line.
func lined(division, line int) impl.Field {
	if division == impl.DivNone {
		return impl.Field{First: impl.Red}
	}
	return impl.Field{Division: division, Line: line, First: impl.Gold, Second: impl.Vair}
}

// partOf returns the part of a field to which the document assigns a cell of the shield.
func partOf(f impl.Field, x, y int) int {
	if linedConditions(f.Line)[f.Division](x, y) {
		return 0
	}
	return 1
}

// noLines returns numbers that are no line.
func noLines() []int {
	return append(farNumbers(), -2, -4, -8, 5, 6, 7, 8, 9, 1<<32+2, 1<<62, math.MinInt+2)
}

// linedParts are pictures of the part 0 of divisions with lines.
var linedParts = []struct {
	division, line int
	picture        string
}{
	{impl.DivPale, impl.LineWavy, `
##########..........
###########.........
###########.........
##########..........
##########..........
#########...........
#########...........
##########..........
##########..........
###########.........
###########.........
##########..........
##########..........
#########...........
#########...........
##########..........
 #########.........
 ##########........
  #########.......
  ########........
   #######.......
    #####.......
     ####......
       ###...`},
	{impl.DivFess, impl.LineWavy, `
####################
####################
####################
####################
####################
####################
####################
####################
####################
####################
####################
#####..######..#####
.##......##......##.
....................
....................
....................
 ..................
 ..................
  ................
  ................
   ..............
    ............
     ..........
       ......`},
	{impl.DivBend, impl.LineEmbattled, `
####################
...#################
..##################
.....###############
....################
......##############
......##############
......#.############
........############
........#.##########
..........##########
..........##########
............########
...........#########
..............######
.............#######
 ..............####
 ..............####
  .............#.#
  ...............#
   ..............
    ............
     ..........
       ......`},
	{impl.DivQuarter, impl.LineIndented, `
##########..........
###########.........
############........
###########.........
##########..........
###########.........
############........
###########.........
##########..........
###########.........
############........
###########.........
.###.###.#..#...#...
..#...#...####.###.#
............########
...........#########
 .........#########
 ..........########
  ..........######
  .........#######
   .......#######
    .......#####
     .......###
       ....##`},
	{impl.DivSaltire, impl.LineWavy, `
####################
..################..
..################..
..################..
....############....
.....##########.....
.....##########.....
......########......
......########......
.........##.........
.........##.........
....................
....................
.........##.........
.......######.......
.......######.......
 ......######......
 ....##########....
  ..############..
  ..############..
   ##############
    ############
     ##########
       ######`},
	{impl.DivPaly, impl.LineWavy, `
####...###....###...
#####...###....###..
#####...###....###..
####...###....###...
####...###....###...
###...###....###....
###...###....###....
####...###....###...
####...###....###...
#####...###....###..
#####...###....###..
####...###....###...
####...###....###...
###...###....###....
###...###....###....
####...###....###...
 ###...###....###..
 ####...###....###.
  ###...###....###
  ##...###....###.
   #...###....###
    ..###....###
     .###....##
       ###...`},
	{impl.DivBarry, impl.LineWavy, `
####################
####################
####################
#####..######..#####
.##......##......##.
....................
....................
.....##......##.....
#..######..######..#
####################
####################
#####..######..#####
.##......##......##.
....................
....................
.....##......##.....
 ..######..######..
 ##################
  ################
  ###..######..###
   ......##......
    ............
     ..........
       ......`},
	{impl.DivBarry, impl.LineEmbattled, `
####################
####################
####################
####################
..##..##..##..##..##
..##..##..##..##..##
....................
....................
##..##..##..##..##..
##..##..##..##..##..
####################
####################
..##..##..##..##..##
..##..##..##..##..##
....................
....................
 #..##..##..##..##.
 #..##..##..##..##.
  ################
  ################
   #..##..##..##.
    ..##..##..##
     ..........
       ......`},
}

// linedBands are pictures of ordinaries with lines.
var linedBands = []struct {
	ordinary, line int
	picture        string
}{
	{impl.OrdPale, impl.LineIndented, `
.......######.......
........######......
.........######.....
........######......
.......######.......
........######......
.........######.....
........######......
.......######.......
........######......
.........######.....
........######......
.......######.......
........######......
.........######.....
........######......
 ......######......
 .......######.....
  .......######...
  ......######....
   ....######....
    ....######..
     ....######
       .#####`},
	{impl.OrdFess, impl.LineEngrailed, `
....................
....................
....................
....................
....................
....................
....................
....................
#..##..##..##..##..#
####################
####################
####################
####################
####################
####################
####################
 ##..##..##..##..##
 ..................
  ................
  ................
   ..............
    ............
     ..........
       ......`},
	{impl.OrdBend, impl.LineWavy, `
####................
####................
#####...............
#######.............
#######.............
########............
..######............
....######..........
....#######.........
....#######.........
.....######.........
.......######.......
.......########.....
........#######.....
........#######.....
..........#####.....
 ..........#######.
 ..........#######.
  .........#######
  ...........#####
   ............##
    ...........#
     ..........
       ......`},
	{impl.OrdChevron, impl.LineEmbattled, `
....................
....................
....................
....................
....................
....................
.........#..........
........##..........
........###.#.......
........######......
.....#.#######......
....##########......
....#####.#####.#...
....####..########..
.#.#####...#.#####..
########......####..
 ####.#.......#####
 ###..........#####
  ##...........#.#
  ##..............
   ..............
    ............
     ..........
       ......`},
	{impl.OrdCross, impl.LineWavy, `
........####........
.........####.......
.........####.......
........####........
........####........
.......####.........
.......####.........
........####........
........####........
.....##..######.....
#..##############..#
####################
####################
#####..######..#####
.##....####......##.
........####........
 .......####.......
 ........####......
  .......####.....
  ......####......
   .....####.....
    ...####.....
     ..####....
       .####.`},
	{impl.OrdSaltire, impl.LineEngrailed, `
###..............###
#####..........#####
#####..........#####
#####..........#####
..#####......#####..
..#####......#####..
....#####..#####....
....#####..#####....
.....##########.....
......########......
......########......
........####........
......########......
......########......
.....##########.....
....#####..#####....
 ...#####..#####...
 .#####......#####.
  #####......#####
  ###..........###
   ##..........##
    #..........#
     ..........
       ......`},
	{impl.OrdChief, impl.LineIndented, `
####################
####################
####################
####################
####################
####################
####################
####################
.###.###.###.###.###
..#...#...#...#...#.
....................
....................
....................
....................
....................
....................
 ..................
 ..................
  ................
  ................
   ..............
    ............
     ..........
       ......`},
}

// TestLineOffsets looks at every line and every place.
func TestLineOffsets(t *testing.T) {
	for line, offsets := range offsetsOfLines() {
		if n, ok := impl.LinePeriod(line); !ok || n != len(offsets) {
			t.Errorf("LinePeriod(%d) = %d, %v", line, n, ok)
		}
		for place := range 1001 {
			if o, ok := impl.LineOffset(line, place); !ok || o != offsets[place%len(offsets)] {
				t.Errorf("LineOffset(%d, %d) = %d, %v", line, place, o, ok)
			}
		}
	}
}

func TestLineOffsetExamples(t *testing.T) {
	for c, want := range map[[2]int]int{
		{impl.LineStraight, 0}: 0, {impl.LineStraight, 7}: 0, {impl.LineStraight, 1000}: 0,
		{impl.LineEngrailed, 0}: 0, {impl.LineEngrailed, 2}: 1, {impl.LineEngrailed, 4}: 0, {impl.LineEngrailed, 5}: 1, {impl.LineEngrailed, 998}: 1,
		{impl.LineEngrailed, 999}: 0, {impl.LineEngrailed, 1000}: 0,
		{impl.LineWavy, 0}: 0, {impl.LineWavy, 1}: 1, {impl.LineWavy, 4}: 0, {impl.LineWavy, 5}: -1, {impl.LineWavy, 6}: -1, {impl.LineWavy, 7}: 0,
		{impl.LineWavy, 8}: 0, {impl.LineWavy, 9}: 1, {impl.LineWavy, 13}: -1, {impl.LineWavy, 997}: -1, {impl.LineWavy, 998}: -1, {impl.LineWavy, 1000}: 0,
		{impl.LineEmbattled, 0}: 0, {impl.LineEmbattled, 1}: 0, {impl.LineEmbattled, 2}: 2, {impl.LineEmbattled, 3}: 2, {impl.LineEmbattled, 4}: 0,
		{impl.LineEmbattled, 999}: 2, {impl.LineEmbattled, 1000}: 0,
		{impl.LineIndented, 1}: 1, {impl.LineIndented, 2}: 2, {impl.LineIndented, 3}: 1, {impl.LineIndented, 6}: 2, {impl.LineIndented, 998}: 2,
		{impl.LineIndented, 999}: 1, {impl.LineIndented, 1000}: 0,
	} {
		if o, ok := impl.LineOffset(c[0], c[1]); !ok || o != want {
			t.Errorf("LineOffset(%d, %d) = %d, %v instead of %d", c[0], c[1], o, ok, want)
		}
	}
}

// TestLinePeriods checks that offsets repeat with the period, and with no smaller number.
func TestLinePeriods(t *testing.T) {
	for line := range lineCount {
		period, ok := impl.LinePeriod(line)
		if !ok {
			t.Fatal(line)
		}
		for n := 1; n <= period; n++ {
			repeats := true
			for place := 0; place+n <= 1000; place++ {
				first, _ := impl.LineOffset(line, place)
				second, _ := impl.LineOffset(line, place+n)
				repeats = repeats && first == second
			}
			if repeats != (n == period) {
				t.Errorf("line %d repeats with %d: %v", line, n, repeats)
			}
		}
	}
}

func TestOtherLinesAndPlaces(t *testing.T) {
	places := []int{
		-1, -2, -4, -5, -8, -1000, 1001, 1002, 1004, 1008, 2000, 1 << 31, 1 << 32, 1<<32 + 5, -1<<32 + 5, 1<<62 + 5, math.MaxInt, math.MaxInt - 2,
		math.MinInt, math.MinInt + 5,
	}
	for line := range lineCount {
		for _, place := range places {
			if o, ok := impl.LineOffset(line, place); ok || o != 0 {
				t.Errorf("LineOffset(%d, %d) = %d, %v", line, place, o, ok)
			}
			if n, ok := impl.LineTurns(line, place); ok || n != 0 {
				t.Errorf("LineTurns(%d, %d) = %d, %v", line, place, n, ok)
			}
		}
		if n, ok := impl.LineTurns(line, 0); ok || n != 0 {
			t.Errorf("LineTurns(%d, 0) = %d, %v", line, n, ok)
		}
	}
	for _, line := range noLines() {
		if n, ok := impl.LinePeriod(line); ok || n != 0 {
			t.Errorf("LinePeriod(%d) = %d, %v", line, n, ok)
		}
		for _, n := range append(places, 0, 1, 2, 5, 8, 999, 1000) {
			if o, ok := impl.LineOffset(line, n); ok || o != 0 {
				t.Errorf("LineOffset(%d, %d) = %d, %v", line, n, o, ok)
			}
			if turns, ok := impl.LineTurns(line, n); ok || turns != 0 {
				t.Errorf("LineTurns(%d, %d) = %d, %v", line, n, turns, ok)
			}
		}
	}
}

// TestLineTurns looks at every line and every number of places.
func TestLineTurns(t *testing.T) {
	for line, offsets := range offsetsOfLines() {
		want := 0
		for n := 1; n <= 1000; n++ {
			if n > 1 && offsets[(n-1)%len(offsets)] != offsets[(n-2)%len(offsets)] {
				want++
			}
			if turns, ok := impl.LineTurns(line, n); !ok || turns != want {
				t.Errorf("LineTurns(%d, %d) = %d, %v instead of %d", line, n, turns, ok, want)
			}
		}
	}
}

func TestLineTurnsExamples(t *testing.T) {
	places := []int{1, 2, 3, 4, 5, 8, 9, 10, 999, 1000}
	for line, want := range [lineCount][]int{
		{0, 0, 0, 0, 0, 0, 0, 0, 0, 0}, {0, 1, 1, 2, 2, 4, 4, 5, 499, 500}, {0, 1, 1, 2, 2, 4, 4, 5, 499, 500}, {0, 0, 1, 1, 2, 3, 4, 4, 499, 499},
		{0, 1, 2, 3, 4, 7, 8, 9, 998, 999},
	} {
		for i, n := range places {
			if turns, ok := impl.LineTurns(line, n); !ok || turns != want[i] {
				t.Errorf("LineTurns(%d, %d) = %d, %v instead of %d", line, n, turns, ok, want[i])
			}
		}
	}
}

// checkCell compares the part and the tincture of a cell with what is wanted.
func checkCell(t *testing.T, f impl.Field, x, y, want int) {
	t.Helper()
	if part, ok := impl.FieldPart(f, x, y); !ok || part != want {
		t.Errorf("FieldPart(%v, %d, %d) = %d, %v instead of %d", f, x, y, part, ok, want)
	}
	tincture := []int{f.First, f.Second}[want]
	if got, ok := impl.FieldTincture(f, x, y); !ok || got != tincture {
		t.Errorf("FieldTincture(%v, %d, %d) = %d, %v instead of %d", f, x, y, got, ok, tincture)
	}
}

// checkNoCell fails the test unless a cell of a field has neither a part nor a tincture.
func checkNoCell(t *testing.T, f impl.Field, x, y int) {
	t.Helper()
	if part, ok := impl.FieldPart(f, x, y); ok || part != 0 {
		t.Errorf("FieldPart(%v, %d, %d) = %d, %v", f, x, y, part, ok)
	}
	if tincture, ok := impl.FieldTincture(f, x, y); ok || tincture != 0 {
		t.Errorf("FieldTincture(%v, %d, %d) = %d, %v", f, x, y, tincture, ok)
	}
}

// TestCellsOfFields looks at all cells of the grid and around it.
func TestCellsOfFields(t *testing.T) {
	for _, f := range someFields() {
		for y := -9; y <= 33; y++ {
			for x := -9; x <= 29; x++ {
				if inShield(x, y) {
					checkCell(t, f, x, y, partOf(f, x, y))
				} else {
					checkNoCell(t, f, x, y)
				}
			}
		}
		for _, far := range farPlaces() {
			for n := range 24 {
				checkNoCell(t, f, far, n)
				checkNoCell(t, f, n, far)
			}
			for _, other := range farPlaces() {
				checkNoCell(t, f, far, other)
			}
		}
	}
}

func TestCellsOfFieldsExamples(t *testing.T) {
	for _, c := range []struct{ division, line, x, y, part int }{
		{impl.DivPale, impl.LineEngrailed, 10, 0, 1}, {impl.DivPale, impl.LineEngrailed, 10, 1, 0}, {impl.DivPale, impl.LineEngrailed, 11, 1, 1},
		{impl.DivPale, impl.LineWavy, 9, 5, 1}, {impl.DivPale, impl.LineWavy, 8, 5, 0}, {impl.DivPale, impl.LineWavy, 10, 9, 0},
		{impl.DivPale, impl.LineEmbattled, 11, 2, 0}, {impl.DivPale, impl.LineEmbattled, 12, 2, 1}, {impl.DivPale, impl.LineEmbattled, 10, 1, 1},
		{impl.DivPale, impl.LineIndented, 11, 2, 0}, {impl.DivPale, impl.LineIndented, 11, 1, 1}, {impl.DivPale, impl.LineIndented, 10, 3, 0},
		// Row 12, and the corners of the grid and of the foot.
		{impl.DivFess, impl.LineWavy, 0, 12, 1}, {impl.DivFess, impl.LineWavy, 1, 12, 0}, {impl.DivFess, impl.LineWavy, 1, 13, 1},
		{impl.DivFess, impl.LineWavy, 5, 11, 1}, {impl.DivFess, impl.LineWavy, 4, 11, 0}, {impl.DivFess, impl.LineEmbattled, 19, 13, 0},
		{impl.DivFess, impl.LineEmbattled, 17, 12, 1}, {impl.DivFess, impl.LineEmbattled, 19, 14, 1}, {impl.DivFess, impl.LineIndented, 0, 0, 0},
		{impl.DivFess, impl.LineIndented, 12, 23, 1}, {impl.DivBend, impl.LineWavy, 0, 0, 0}, {impl.DivBend, impl.LineWavy, 19, 0, 0},
		{impl.DivBend, impl.LineWavy, 0, 15, 1}, {impl.DivBend, impl.LineWavy, 12, 23, 1}, {impl.DivBend, impl.LineWavy, 19, 15, 0},
		{impl.DivSaltire, impl.LineWavy, 0, 1, 1}, {impl.DivSaltire, impl.LineEmbattled, 7, 23, 0}, {impl.DivSaltire, impl.LineEmbattled, 9, 12, 0},
		{impl.DivSaltire, impl.LineStraight, 9, 12, 1},
		// Places near the diagonal, with positive and with negative offsets.
		{impl.DivBend, impl.LineStraight, 1, 1, 0}, {impl.DivBend, impl.LineEngrailed, 1, 1, 1}, {impl.DivBend, impl.LineStraight, 2, 3, 1},
		{impl.DivBend, impl.LineWavy, 2, 3, 0}, {impl.DivBend, impl.LineWavy, 1, 1, 1},
		{impl.DivQuarter, impl.LineWavy, 9, 5, 1}, {impl.DivQuarter, impl.LineWavy, 10, 12, 1}, {impl.DivQuarter, impl.LineWavy, 13, 11, 0},
		{impl.DivQuarter, impl.LineWavy, 0, 0, 0}, {impl.DivQuarter, impl.LineWavy, 19, 0, 1}, {impl.DivQuarter, impl.LineWavy, 7, 23, 1},
		{impl.DivQuarter, impl.LineWavy, 12, 23, 0},
		// Stripes at the edges: without the clamps these cells would be in further ones.
		{impl.DivPaly, impl.LineWavy, 19, 5, 1}, {impl.DivPaly, impl.LineWavy, 19, 6, 1}, {impl.DivPaly, impl.LineWavy, 0, 5, 0},
		{impl.DivPaly, impl.LineWavy, 0, 1, 0}, {impl.DivPaly, impl.LineEmbattled, 0, 2, 0}, {impl.DivPaly, impl.LineEmbattled, 1, 2, 0},
		{impl.DivPaly, impl.LineIndented, 0, 1, 0}, {impl.DivPaly, impl.LineIndented, 0, 2, 0}, {impl.DivPaly, impl.LineWavy, 19, 1, 1},
		{impl.DivBarry, impl.LineWavy, 1, 0, 0}, {impl.DivBarry, impl.LineEmbattled, 2, 0, 0}, {impl.DivBarry, impl.LineEmbattled, 3, 1, 0},
		{impl.DivBarry, impl.LineIndented, 2, 0, 0}, {impl.DivBarry, impl.LineWavy, 5, 22, 1}, {impl.DivBarry, impl.LineWavy, 7, 23, 1},
		{impl.DivBarry, impl.LineWavy, 5, 3, 1}, {impl.DivBarry, impl.LineWavy, 5, 7, 0}, {impl.DivBarry, impl.LineEmbattled, 2, 4, 0},
	} {
		checkCell(t, lined(c.division, c.line), c.x, c.y, c.part)
	}
	for _, c := range []cell{{0, 0}, {19, 0}, {0, 15}, {19, 15}, {9, 12}, {7, 23}, {12, 23}} {
		checkCell(t, lined(impl.DivNone, 0), c[0], c[1], 0)
	}
}

func TestRegionsOfFields(t *testing.T) {
	for _, f := range someFields() {
		for part := range 2 {
			want := regionOf(cellsWhere(func(x, y int) bool { return partOf(f, x, y) == part })...)
			got, ok := impl.FieldRegion(f, part)
			isRegion(t, got, ok, want)
		}
	}
	for _, p := range linedParts {
		got, ok := impl.FieldRegion(lined(p.division, p.line), 0)
		isRegion(t, got, ok, drawn(0, 0, p.picture))
	}
}

// areasOfParts returns for every division the areas of the part 0 with all lines.
func areasOfParts() [divisionCount][lineCount]int {
	return [divisionCount][lineCount]int{
		{430, 430, 430, 430, 430}, {215, 227, 215, 239, 239}, {240, 250, 242, 260, 260}, {228, 220, 227, 211, 212}, {215, 215, 219, 211, 215},
		{214, 214, 216, 208, 206}, {213, 222, 217, 231, 232}, {228, 234, 226, 243, 242},
	}
}

// TestLinedPartsMakeUpShield checks the promise of the chapter, with all tinctures that differ.
func TestLinedPartsMakeUpShield(t *testing.T) {
	for division, areas := range areasOfParts() {
		for line, area := range areas {
			f := lined(division, line)
			first, ok := impl.FieldRegion(f, 0)
			second, fine := impl.FieldRegion(f, 1)
			if !ok || !fine {
				t.Fatal(f)
			}
			union, ok := impl.CombineRegions(first, second, impl.CombineUnion)
			isRegion(t, union, ok, impl.ShieldRegion())
			common, ok := impl.CombineRegions(first, second, impl.CombineIntersection)
			isRegion(t, common, ok, regionOf())
			n, _ := impl.AreaOf(first)
			m, _ := impl.AreaOf(second)
			if n != area || n+m != 430 {
				t.Errorf("%v: %d and %d cells instead of %d", f, n, m, area)
			}
			checkTinctures(t, f, first)
		}
	}
}

// checkTinctures compares the cells of a field of all tinctures with the part 0 of this field.
func checkTinctures(t *testing.T, f impl.Field, first impl.Region) {
	t.Helper()
	for x := 1; x <= 9; x++ {
		for y := 1; y <= 9; y++ {
			other := impl.Field{Division: f.Division, Line: f.Line, First: x, Second: y}
			if f.Division == impl.DivNone {
				other.Second = 0
			} else if x == y {
				continue
			}
			for _, c := range cellsOfShield() {
				want := x
				if first.Rows[c[1]]>>c[0]&1 == 0 {
					want = y
				}
				if got, ok := impl.FieldTincture(other, c[0], c[1]); !ok || got != want {
					t.Fatalf("FieldTincture(%v, %d, %d) = %d, %v instead of %d", other, c[0], c[1], got, ok, want)
				}
			}
			region, ok := impl.FieldRegion(other, 0)
			isRegion(t, region, ok, first)
		}
	}
}

// TestStraightLinesChangeNothing compares this chapter with the one before it.
func TestStraightLinesChangeNothing(t *testing.T) {
	for division := range divisionCount {
		f := lined(division, impl.LineStraight)
		for part := range 2 {
			want, _ := impl.PartRegion(division, part)
			got, ok := impl.FieldRegion(f, part)
			isRegion(t, got, ok, want)
		}
		swung, ok := impl.SwungCells(f)
		isRegion(t, swung, ok, regionOf())
	}
	for ordinary := range ordinaryCount {
		want, _ := impl.OrdinaryCells(ordinary)
		got, ok := impl.LinedOrdinary(ordinary, impl.LineStraight)
		isRegion(t, got, ok, want)
	}
	none, ok := impl.FieldRegion(lined(impl.DivNone, 0), 1)
	isRegion(t, none, ok, regionOf())
}

func TestLinedOrdinaries(t *testing.T) {
	areas := [ordinaryCount][lineCount]int{
		{}, {144, 144, 144, 142, 143}, {160, 160, 160, 158, 159}, {129, 129, 129, 128, 133}, {106, 104, 104, 102, 101}, {160, 160, 160, 159, 160},
		{186, 184, 184, 184, 172}, {160, 170, 162, 180, 180},
	}
	for line := range lineCount {
		for ordinary, holds := range linedOrdinaryConditions(line) {
			got, ok := impl.LinedOrdinary(ordinary, line)
			isRegion(t, got, ok, regionOf(cellsWhere(holds)...))
			if n, _ := impl.AreaOf(got); n != areas[ordinary][line] {
				t.Errorf("ordinary %d, line %d: %d cells", ordinary, line, n)
			}
		}
	}
	for _, b := range linedBands {
		got, ok := impl.LinedOrdinary(b.ordinary, b.line)
		isRegion(t, got, ok, drawn(0, 0, b.picture))
	}
}

func TestSwungCells(t *testing.T) {
	for division, areas := range [divisionCount][lineCount]int{
		{}, {0, 12, 12, 24, 24}, {0, 10, 10, 20, 20}, {0, 8, 7, 17, 16}, {0, 22, 22, 44, 42}, {0, 16, 14, 34, 32}, {0, 57, 56, 108, 111},
		{0, 46, 46, 91, 92},
	} {
		for line, area := range areas {
			f := lined(division, line)
			straight := lined(division, impl.LineStraight)
			want := regionOf(cellsWhere(func(x, y int) bool { return partOf(f, x, y) != partOf(straight, x, y) })...)
			for range 2 {
				got, ok := impl.SwungCells(f)
				isRegion(t, got, ok, want)
				if n, _ := impl.AreaOf(got); n != area {
					t.Errorf("SwungCells(%v): %d cells", f, n)
				}
				f, _ = impl.SwapField(f)
			}
		}
	}
}

// TestSwungCellsAreBetweenParts compares swung cells with the regions of both fields.
func TestSwungCellsAreBetweenParts(t *testing.T) {
	for _, f := range someFields() {
		swung, ok := impl.SwungCells(f)
		if !ok {
			t.Fatal(f)
		}
		bent, _ := impl.FieldRegion(f, 0)
		before, _ := impl.PartRegion(f.Division, 0)
		union, _ := impl.CombineRegions(bent, before, impl.CombineUnion)
		common, _ := impl.CombineRegions(bent, before, impl.CombineIntersection)
		want, ok := impl.CombineRegions(union, common, impl.CombineDifference)
		isRegion(t, swung, ok, want)
		if n, _ := impl.AreaOf(swung); (n == 0) != (f.Line == impl.LineStraight) {
			t.Errorf("SwungCells(%v): %d cells", f, n)
		}
	}
}

func TestInvalidFieldsHaveNoParts(t *testing.T) {
	for _, f := range noFields() {
		for _, c := range []cell{{0, 0}, {19, 0}, {9, 12}, {7, 23}, {0, 23}, {-1, 0}, {math.MaxInt, math.MinInt}} {
			checkNoCell(t, f, c[0], c[1])
		}
		for part := -1; part <= 2; part++ {
			got, ok := impl.FieldRegion(f, part)
			isNoRegion(t, got, ok)
		}
		got, ok := impl.SwungCells(f)
		isNoRegion(t, got, ok)
	}
}

func TestOtherPartsOfFields(t *testing.T) {
	for _, f := range someFields() {
		for _, part := range append(farNumbers(), -2, 2, 3, 4, 5, 6, 7, 8, 9, 1<<32) {
			got, ok := impl.FieldRegion(f, part)
			isNoRegion(t, got, ok)
		}
	}
}

func TestOtherLinedOrdinaries(t *testing.T) {
	for ordinary := range ordinaryCount {
		for _, line := range noLines() {
			got, ok := impl.LinedOrdinary(ordinary, line)
			isNoRegion(t, got, ok)
		}
	}
	for _, ordinary := range append(farNumbers(), -2, 8, 9, 24, 1<<32, 1<<32+3) {
		for _, line := range append(noLines(), 0, 1, 2, 3, 4) {
			got, ok := impl.LinedOrdinary(ordinary, line)
			isNoRegion(t, got, ok)
		}
	}
}

// TestLinedRegionsAreNewMemory changes results and what lies behind their ends.
func TestLinedRegionsAreNewMemory(t *testing.T) {
	var calls []func() (impl.Region, bool)
	for line := range lineCount {
		for division := range divisionCount {
			f := lined(division, line)
			calls = append(calls, func() (impl.Region, bool) { return impl.FieldRegion(f, 0) },
				func() (impl.Region, bool) { return impl.FieldRegion(f, 1) }, func() (impl.Region, bool) { return impl.SwungCells(f) })
		}
		for ordinary := range ordinaryCount {
			calls = append(calls, func() (impl.Region, bool) { return impl.LinedOrdinary(ordinary, line) })
		}
	}
	for _, call := range calls {
		first, ok := call()
		kept := impl.Region{Rows: slices.Clone(first.Rows)}
		isRegion(t, first, ok, kept)
		second, _ := call()
		for y := range first.Rows {
			first.Rows[y] = 77
		}
		_ = append(first.Rows[:1], 78, 79)
		third, ok := call()
		isRegion(t, second, ok, kept)
		isRegion(t, third, ok, kept)
	}
}
