package tests

import (
	"math"
	"slices"
	"strings"
	"testing"

	"loop.example/g00884/impl"
)

// cell is a place of the grid, first its column and then its row.
type cell [2]int

// footOfShield holds the first and the last column of the shield in the rows 12 to 23.
var footOfShield = [][2]int{
	{0, 19}, {0, 19}, {0, 19}, {0, 19}, {1, 18}, {1, 18}, {2, 17}, {2, 17}, {3, 16}, {4, 15}, {5, 14}, {7, 12},
}

// The pictures of slanting parts and ordinaries: `#` for their cells, `.` for the others of the
// shield, and a space or nothing for all others.
const (
	bendPicture = `
####################
.###################
..##################
...#################
....################
.....###############
.....###############
......##############
.......#############
........############
.........###########
..........##########
..........##########
...........#########
............########
.............#######
 .............#####
 ..............####
  .............###
  ..............##
   ..............
    ............
     ..........
       ......`
	saltirePicture = `
####################
.##################.
..################..
...##############...
....############....
.....##########.....
.....##########.....
......########......
.......######.......
........####........
.........##.........
....................
....................
.........##.........
........####........
.......######.......
 .....########.....
 ....##########....
  ...##########...
  ..############..
   ##############
    ############
     ##########
       ######`
	bendBandPicture = `
####................
#####...............
#####...............
######..............
#######.............
.#######............
..#######...........
...#######..........
....######..........
.....######.........
.....#######........
......#######.......
.......#######......
........#######.....
.........######.....
..........######....
 .........#######..
 ..........#######.
  ..........######
  ...........#####
   ...........###
    ...........#
     ..........
       ......`
	chevronPicture = `
....................
....................
....................
....................
....................
....................
.........##.........
........####........
.......######.......
......########......
.....##########.....
....############....
...######..######...
..######....######..
.######......######.
######........######
 ####..........####
 ###............###
  #..............#
  ................
   ..............
    ............
     ..........
       ......`
	saltireBandPicture = `
###..............###
####............####
#####..........#####
#####..........#####
.#####........#####.
..#####......#####..
...#####....#####...
....#####..#####....
.....##########.....
.....##########.....
......########......
.......######.......
.......######.......
......########......
.....##########.....
.....##########.....
 ...#####..#####...
 ..#####....#####..
  #####......#####
  ####........####
   ##..........##
    #..........#
     ..........
       ......`
)

// inShield reports whether a place belongs to the shield, by the table of its foot.
func inShield(x, y int) bool {
	switch {
	case y < 0 || y > 23:
		return false
	case y < 12:
		return 0 <= x && x <= 19
	}
	return footOfShield[y-12][0] <= x && x <= footOfShield[y-12][1]
}

// cellsOfShield returns the cells of the shield, row by row and each row from the left.
func cellsOfShield() []cell {
	var cells []cell
	for y := range 24 {
		for x := range 20 {
			if inShield(x, y) {
				cells = append(cells, cell{x, y})
			}
		}
	}
	return cells
}

// regionOf returns the region of some cells.
func regionOf(cells ...cell) impl.Region {
	rows := make([]int, 24)
	for _, c := range cells {
		rows[c[1]] |= 1 << c[0]
	}
	return impl.Region{Rows: rows}
}

// cellsWhere returns the cells of the shield for which a condition holds.
func cellsWhere(holds func(x, y int) bool) []cell {
	return slices.DeleteFunc(cellsOfShield(), func(c cell) bool { return !holds(c[0], c[1]) })
}

// cellsOf returns the cells of a region, row by row and each row from the left.
func cellsOf(r impl.Region) []cell {
	return cellsWhere(func(x, y int) bool { return r.Rows[y]>>x&1 == 1 })
}

// drawn returns the region of the cells that are `#` in a picture whose upper left cell is (x, y).
func drawn(x, y int, picture string) impl.Region {
	var cells []cell
	for i, line := range strings.Split(strings.TrimPrefix(picture, "\n"), "\n") {
		for j, c := range line {
			if c == '#' {
				cells = append(cells, cell{x + j, y + i})
			}
		}
	}
	return regionOf(cells...)
}

// slant and otherSlant are the two numbers by which the document tells the sides of the diagonals.
func slant(x, y int) int      { return 24*(2*x+1) - 20*(2*y+1) }
func otherSlant(x, y int) int { return 24*(39-2*x) - 20*(2*y+1) }

// size returns the absolute value of n.
func size(n int) int {
	if n < 0 {
		return -n
	}
	return n
}

// partConditions returns for every division the document's condition for part 0.
func partConditions() []func(x, y int) bool {
	return []func(x, y int) bool{
		func(x, y int) bool { return true },
		func(x, y int) bool { return x < 10 },
		func(x, y int) bool { return y < 12 },
		func(x, y int) bool { return 24*(2*x+1) > 20*(2*y+1) },
		func(x, y int) bool { return x < 10 && y < 12 || x >= 10 && y >= 12 },
		func(x, y int) bool {
			first, second := 24*(2*x+1) > 20*(2*y+1), 24*(39-2*x) > 20*(2*y+1)
			return first && second || !first && !second
		},
		func(x, y int) bool { return (6*x/20)%2 == 0 },
		func(x, y int) bool { return (y/4)%2 == 0 },
	}
}

// ordinaryConditions returns for every ordinary the document's condition for its cells.
func ordinaryConditions() []func(x, y int) bool {
	return []func(x, y int) bool{
		func(x, y int) bool { return false },
		func(x, y int) bool { return 7 <= x && x < 13 },
		func(x, y int) bool { return 8 <= y && y < 16 },
		func(x, y int) bool { return size(slant(x, y)) <= 160 },
		func(x, y int) bool {
			d := size(2*x - 19)
			return 11 <= 2*y+1-d && 2*y+1-d <= 22
		},
		func(x, y int) bool { return 8 <= x && x < 12 || 10 <= y && y < 14 },
		func(x, y int) bool { return size(slant(x, y)) <= 120 || size(otherSlant(x, y)) <= 120 },
		func(x, y int) bool { return y < 8 },
	}
}

// sameRegion reports whether two regions have the same rows.
func sameRegion(a, b impl.Region) bool { return slices.Equal(a.Rows, b.Rows) }

// isRegion fails the test unless a call has returned a region that is wanted, and true.
func isRegion(t *testing.T, got impl.Region, ok bool, want impl.Region) {
	t.Helper()
	if !ok || !impl.IsValidRegion(got) || !sameRegion(got, want) {
		t.Errorf("%v, %v instead of %v", got, ok, want)
	}
}

// isNoRegion fails the test unless a call has returned the zero region and false.
func isNoRegion(t *testing.T, got impl.Region, ok bool) {
	t.Helper()
	if ok || len(got.Rows) != 0 {
		t.Errorf("%v, %v", got, ok)
	}
}

// scattered returns a region of about one in n cells of the shield, which depends on the seed.
func scattered(seed, n int) impl.Region {
	state := uint32(seed)*2654435761 + 12345
	return regionOf(cellsWhere(func(x, y int) bool {
		state = state*1664525 + 1013904223
		return int(state>>16)%n == 0
	})...)
}

// measures holds what the functions tell of a region; bounds are nil for the empty one.
type measures struct {
	area   int
	bounds []int
	pieces int
	edge   int
}

// drawnRegions returns regions with what the document tells of them.
func drawnRegions() []struct {
	region impl.Region
	want   measures
} {
	return []struct {
		region impl.Region
		want   measures
	}{
		// No cell, one cell at a corner of the grid, at the ends of the foot and within.
		{regionOf(), measures{0, nil, 0, 0}},
		{regionOf(cell{0, 0}), measures{1, []int{0, 0, 0, 0}, 1, 4}},
		{regionOf(cell{19, 0}), measures{1, []int{19, 0, 19, 0}, 1, 4}},
		{regionOf(cell{0, 15}), measures{1, []int{0, 15, 0, 15}, 1, 4}},
		{regionOf(cell{19, 15}), measures{1, []int{19, 15, 19, 15}, 1, 4}},
		{regionOf(cell{7, 23}), measures{1, []int{7, 23, 7, 23}, 1, 4}},
		{regionOf(cell{12, 23}), measures{1, []int{12, 23, 12, 23}, 1, 4}},
		{regionOf(cell{9, 12}), measures{1, []int{9, 12, 9, 12}, 1, 4}},
		// Single rows and columns.
		{drawn(0, 0, "####################"), measures{20, []int{0, 0, 19, 0}, 1, 42}},
		{drawn(0, 12, "####################"), measures{20, []int{0, 12, 19, 12}, 1, 42}},
		{drawn(7, 23, "######"), measures{6, []int{7, 23, 12, 23}, 1, 14}},
		{drawn(0, 11, "#.#.#.#.#.#.#.#.#.#."), measures{10, []int{0, 11, 18, 11}, 10, 40}},
		{drawn(7, 0, strings.Repeat("\n#", 24)), measures{24, []int{7, 0, 7, 23}, 1, 50}},
		// The end of a row and the start of the next one are not beside each other.
		{regionOf(cell{19, 4}, cell{0, 5}), measures{2, []int{0, 4, 19, 5}, 2, 8}},
		{regionOf(cell{0, 4}, cell{19, 5}), measures{2, []int{0, 4, 19, 5}, 2, 8}},
		// The first and the last row are not beside each other.
		{regionOf(cell{9, 0}, cell{9, 23}), measures{2, []int{9, 0, 9, 23}, 2, 8}},
		// Pieces that touch at a corner only, in both directions.
		{drawn(3, 4, "#.\n.#"), measures{2, []int{3, 4, 4, 5}, 2, 8}},
		{drawn(3, 4, ".#\n#."), measures{2, []int{3, 4, 4, 5}, 2, 8}},
		{drawn(17, 14, "###\n###\n.."), measures{6, []int{17, 14, 19, 15}, 1, 10}},
		{drawn(3, 4, "##..\n##..\n..##\n..##"), measures{8, []int{3, 4, 6, 7}, 2, 16}},
		// A hole, a hole that is open at a corner only, a cell in a hole, and a hole at the edge.
		{drawn(3, 4, "###\n#.#\n###"), measures{8, []int{3, 4, 5, 6}, 1, 16}},
		{drawn(3, 4, "##.\n#.#\n###"), measures{7, []int{3, 4, 5, 6}, 1, 16}},
		{drawn(3, 4, ".##\n#.#\n###"), measures{7, []int{3, 4, 5, 6}, 1, 16}},
		{drawn(3, 4, "#####\n#...#\n#.#.#\n#...#\n#####"), measures{17, []int{3, 4, 7, 8}, 2, 36}},
		{drawn(0, 0, "##\n.#\n##"), measures{5, []int{0, 0, 1, 2}, 1, 12}},
		// Parts that are connected only far below, far above, or by a winding way.
		{drawn(0, 0, "#.#\n#.#\n###"), measures{7, []int{0, 0, 2, 2}, 1, 16}},
		{drawn(0, 9, "###\n#.#\n#.#"), measures{7, []int{0, 9, 2, 11}, 1, 16}},
		{drawn(13, 2, "#.#.#\n#.#.#\n#####"), measures{11, []int{13, 2, 17, 4}, 1, 24}},
		{drawn(2, 2, "######\n.....#\n####.#\n#..#.#\n#.##.#\n#....#\n######"), measures{27, []int{2, 2, 7, 8}, 1, 56}},
		{drawn(2, 2, "######\n.....#\n####.#\n#..#.#\n#.##.#\n#....#\n####.#"), measures{26, []int{2, 2, 7, 8}, 2, 56}},
	}
}

// measuredRegions returns the regions of the document with what it tells of them.
func measuredRegions(t *testing.T) []struct {
	region impl.Region
	want   measures
} {
	list := drawnRegions()
	add := func(r impl.Region, ok bool, m measures) {
		if !ok {
			t.Error("no region for", m)
		}
		list = append(list, struct {
			region impl.Region
			want   measures
		}{r, m})
	}
	add(impl.ShieldRegion(), true, measures{430, []int{0, 0, 19, 23}, 1, 88})
	for i, m := range [][2]measures{
		{{430, []int{0, 0, 19, 23}, 1, 88}, {0, nil, 0, 0}},
		{{215, []int{0, 0, 9, 23}, 1, 68}, {215, []int{10, 0, 19, 23}, 1, 68}},
		{{240, []int{0, 0, 19, 11}, 1, 64}, {190, []int{0, 12, 19, 23}, 1, 64}},
		{{228, []int{0, 0, 19, 19}, 1, 80}, {202, []int{0, 1, 16, 23}, 1, 80}},
		{{215, []int{0, 0, 19, 23}, 2, 88}, {215, []int{0, 0, 19, 23}, 2, 88}},
		{{214, []int{0, 0, 19, 23}, 2, 112}, {216, []int{0, 1, 19, 19}, 1, 112}},
		{{213, []int{0, 0, 16, 23}, 3, 156}, {217, []int{4, 0, 19, 23}, 3, 154}},
		{{228, []int{0, 0, 19, 19}, 3, 140}, {202, []int{0, 4, 19, 23}, 3, 132}},
	} {
		for part := range 2 {
			r, ok := impl.PartRegion(i, part)
			add(r, ok, m[part])
		}
	}
	for i, m := range []measures{
		{0, nil, 0, 0}, {144, []int{7, 0, 12, 23}, 1, 60}, {160, []int{0, 8, 19, 15}, 1, 56}, {129, []int{0, 0, 17, 21}, 1, 80},
		{106, []int{0, 6, 19, 18}, 1, 80}, {160, []int{0, 0, 19, 23}, 1, 88}, {186, []int{0, 0, 19, 21}, 1, 132},
		{160, []int{0, 0, 19, 7}, 1, 56},
	} {
		r, ok := impl.OrdinaryCells(i)
		add(r, ok, m)
	}
	return list
}

// someRegions returns valid regions: those of the document, drawn ones, chequered ones, one long
// winding way, and scattered ones of few and of many cells.
func someRegions(t *testing.T) []impl.Region {
	var list []impl.Region
	for _, m := range measuredRegions(t) {
		list = append(list, m.region)
	}
	for i := range 2 {
		list = append(list, regionOf(cellsWhere(func(x, y int) bool { return (x+y)%2 == i })...))
	}
	list = append(list, windingWay())
	for seed := range 6 {
		sparse, dense := scattered(seed, 4), scattered(seed+50, 4)
		for y, row := range impl.ShieldRegion().Rows {
			dense.Rows[y] ^= row
		}
		list = append(list, sparse, scattered(seed, 2), dense)
	}
	return list
}

// windingWay returns every second row of the shield, connected at the right and at the left end
// in turn.
func windingWay() impl.Region {
	return regionOf(cellsWhere(func(x, y int) bool {
		return y%2 == 0 || y%4 == 1 && !inShield(x+1, y+1) || y%4 == 3 && !inShield(x-1, y+1)
	})...)
}

// measure returns what the document tells of a region, found by looking at its cells.
func measure(r impl.Region) measures {
	cells := cellsOf(r)
	m := measures{area: len(cells)}
	left := map[cell]bool{}
	for i, c := range cells {
		left[c] = true
		if i == 0 {
			m.bounds = []int{c[0], c[1], c[0], c[1]}
		}
		m.bounds[0], m.bounds[1] = min(m.bounds[0], c[0]), min(m.bounds[1], c[1])
		m.bounds[2], m.bounds[3] = max(m.bounds[2], c[0]), max(m.bounds[3], c[1])
	}
	for c := range left {
		for _, next := range cellsBeside(c) {
			if !left[next] {
				m.edge++
			}
		}
	}
	for _, c := range cells {
		if left[c] {
			m.pieces++
			removePiece(left, c)
		}
	}
	return m
}

// cellsBeside returns the places that have a side in common with a cell.
func cellsBeside(c cell) []cell {
	return []cell{{c[0] - 1, c[1]}, {c[0] + 1, c[1]}, {c[0], c[1] - 1}, {c[0], c[1] + 1}}
}

// removePiece removes a cell and all that are connected with it.
func removePiece(left map[cell]bool, c cell) {
	if left[c] {
		delete(left, c)
		for _, next := range cellsBeside(c) {
			removePiece(left, next)
		}
	}
}

// checkMeasures compares what all functions tell of a region with what is wanted.
func checkMeasures(t *testing.T, r impl.Region, want measures) {
	t.Helper()
	if n, ok := impl.AreaOf(r); !ok || n != want.area {
		t.Errorf("AreaOf(%v) = %d, %v instead of %d", r, n, ok, want.area)
	}
	if b, ok := impl.BoundsOf(r); ok != (want.area > 0) || !slices.Equal(b, want.bounds) {
		t.Errorf("BoundsOf(%v) = %v, %v instead of %v", r, b, ok, want.bounds)
	}
	if n, ok := impl.PiecesOf(r); !ok || n != want.pieces {
		t.Errorf("PiecesOf(%v) = %d, %v instead of %d", r, n, ok, want.pieces)
	}
	if n, ok := impl.EdgeLength(r); !ok || n != want.edge {
		t.Errorf("EdgeLength(%v) = %d, %v instead of %d", r, n, ok, want.edge)
	}
}

// farPlaces returns numbers that are no column and no row, some of which are one in 32 bits or
// have a square of 0 in 64 bits.
func farPlaces() []int {
	return []int{
		-1, -2, -20, 24, 25, 100, 1 << 31, 1<<32 + 5, -1<<32 + 5, 1<<62 + 9, 1<<63 - 1<<10, -1 << 62, math.MaxInt, math.MaxInt - 1,
		math.MinInt, math.MinInt + 1, math.MinInt + 9, math.MinInt/2 + 9, math.MaxInt/2 + 10,
	}
}

// noRegions returns invalid regions; most of them have a single wrong number.
func noRegions() []impl.Region {
	list := []impl.Region{{}, {Rows: []int{}}, {Rows: []int{0}}, {Rows: []int{1}}, {Rows: []int{-1}}}
	for _, base := range []impl.Region{regionOf(), regionOf(cell{9, 9}), regionOf(cellsOfShield()...)} {
		for _, n := range []int{1, 12, 20, 22, 23} {
			list = append(list, impl.Region{Rows: slices.Clone(base.Rows[:n])}, impl.Region{Rows: slices.Clone(base.Rows[24-n:])})
		}
		for _, more := range [][]int{{0}, {1}, {-1}, base.Rows, make([]int, 1000)} {
			list = append(list, impl.Region{Rows: slices.Concat(base.Rows, more)}, impl.Region{Rows: slices.Concat(more, base.Rows)})
		}
		for y := range 24 {
			for _, row := range []int{-1, -2, math.MinInt, math.MinInt + 1, -1 << 20, -1 << 32, 1 << 20, 1 << 24, 1 << 32, 1 << 62, math.MaxInt} {
				changed := slices.Clone(base.Rows)
				changed[y] = row
				list = append(list, impl.Region{Rows: changed})
			}
			for x := range 64 {
				if !inShield(x, y) && (x < 22 || x > 30) {
					changed := slices.Clone(base.Rows)
					changed[y] |= 1 << x
					list = append(list, impl.Region{Rows: changed})
				}
			}
		}
	}
	return list
}

func TestShieldConstants(t *testing.T) {
	ways := []int{impl.CombineUnion, impl.CombineIntersection, impl.CombineDifference}
	if impl.Columns != 20 || impl.Rows != 24 || !slices.Equal(ways, []int{1, 2, 3}) {
		t.Error(impl.Columns, impl.Rows, ways)
	}
}

// TestInShieldOfEveryCell looks at all places of the grid and around it, with the document's
// formula and with the table of the foot.
func TestInShieldOfEveryCell(t *testing.T) {
	for y := -30; y <= 60; y++ {
		for x := -30; x <= 60; x++ {
			grid := 0 <= x && x < 20 && 0 <= y && y < 24
			want := grid && (y < 12 || 576*(2*x-19)*(2*x-19)+400*(2*y-23)*(2*y-23) <= 230400)
			if want != inShield(x, y) || impl.InShield(x, y) != want {
				t.Errorf("InShield(%d, %d) = %v", x, y, !want)
			}
		}
	}
	for _, far := range farPlaces() {
		for n := range 24 {
			if impl.InShield(far, n) || impl.InShield(n, far) {
				t.Errorf("InShield with %d and %d", far, n)
			}
		}
		for _, other := range farPlaces() {
			if impl.InShield(far, other) {
				t.Errorf("InShield(%d, %d) = true", far, other)
			}
		}
	}
}

func TestInShieldExamples(t *testing.T) {
	for c, want := range map[cell]bool{
		// The corners of the grid, and just outside of it.
		{0, 0}: true, {19, 0}: true, {0, 23}: false, {19, 23}: false, {-1, 0}: false, {20, 0}: false, {0, -1}: false, {19, -1}: false,
		{9, 23}: true, {9, 24}: false, {10, 24}: false, {20, 12}: false, {-1, 12}: false,
		// The last row of the upper half and the first one of the lower half.
		{0, 11}: true, {19, 11}: true, {0, 12}: true, {19, 12}: true,
		// The foot, just inside and just outside.
		{0, 15}: true, {19, 15}: true, {0, 16}: false, {19, 16}: false, {1, 16}: true, {18, 16}: true, {1, 18}: false, {18, 18}: false,
		{2, 18}: true, {17, 18}: true, {2, 20}: false, {3, 20}: true, {16, 20}: true, {17, 20}: false, {4, 22}: false, {5, 22}: true,
		{14, 22}: true, {15, 22}: false, {6, 23}: false, {7, 23}: true, {12, 23}: true, {13, 23}: false,
	} {
		if impl.InShield(c[0], c[1]) != want {
			t.Errorf("InShield(%d, %d) = %v", c[0], c[1], !want)
		}
	}
}

func TestShieldRegion(t *testing.T) {
	want := regionOf(cellsOfShield()...)
	isRegion(t, impl.ShieldRegion(), true, want)
	for y := range 12 {
		if want.Rows[y] != 1<<20-1 {
			t.Errorf("row %d: %b", y, want.Rows[y])
		}
	}
}

// TestRegionsOfEveryBit looks at regions with a single bit in a single row.
func TestRegionsOfEveryBit(t *testing.T) {
	for y := range 24 {
		for x := range 64 {
			rows := make([]int, 24)
			rows[y] = 1 << x
			if impl.IsValidRegion(impl.Region{Rows: rows}) != inShield(x, y) {
				t.Errorf("IsValidRegion with the bit %d in row %d", x, y)
			}
		}
	}
}

func TestIsValidRegion(t *testing.T) {
	for _, r := range someRegions(t) {
		if !impl.IsValidRegion(r) {
			t.Errorf("IsValidRegion(%v) = false", r)
		}
	}
	for _, r := range noRegions() {
		if impl.IsValidRegion(r) {
			t.Errorf("IsValidRegion(%v) = true", r)
		}
	}
}

func TestPartRegions(t *testing.T) {
	for division, holds := range partConditions() {
		for part := range 2 {
			want := regionOf(cellsWhere(func(x, y int) bool { return holds(x, y) == (part == 0) })...)
			got, ok := impl.PartRegion(division, part)
			isRegion(t, got, ok, want)
		}
	}
	for division, picture := range map[int]string{impl.DivBend: bendPicture, impl.DivSaltire: saltirePicture} {
		got, ok := impl.PartRegion(division, 0)
		isRegion(t, got, ok, drawn(0, 0, picture))
	}
	none, ok := impl.PartRegion(impl.DivNone, 0)
	isRegion(t, none, ok, impl.ShieldRegion())
	none, ok = impl.PartRegion(impl.DivNone, 1)
	isRegion(t, none, ok, regionOf())
}

// TestPartsMakeUpShield checks the promise of the chapter, cell by cell and with regions.
func TestPartsMakeUpShield(t *testing.T) {
	for division := impl.DivNone; division <= impl.DivBarry; division++ {
		first, ok := impl.PartRegion(division, 0)
		second, fine := impl.PartRegion(division, 1)
		if !ok || !fine || len(first.Rows) != 24 || len(second.Rows) != 24 {
			t.Fatal(division, first, second)
		}
		for y := range 24 {
			for x := range 64 {
				n := first.Rows[y]>>x&1 + second.Rows[y]>>x&1
				if inShield(x, y) && n != 1 || !inShield(x, y) && n != 0 {
					t.Errorf("division %d: (%d, %d) belongs to %d parts", division, x, y, n)
				}
			}
		}
		union, ok := impl.CombineRegions(first, second, impl.CombineUnion)
		isRegion(t, union, ok, impl.ShieldRegion())
		common, ok := impl.CombineRegions(first, second, impl.CombineIntersection)
		isRegion(t, common, ok, regionOf())
		rest, ok := impl.CombineRegions(impl.ShieldRegion(), first, impl.CombineDifference)
		isRegion(t, rest, ok, second)
		n, _ := impl.AreaOf(first)
		m, _ := impl.AreaOf(second)
		if n+m != 430 {
			t.Errorf("division %d: %d and %d cells", division, n, m)
		}
	}
}

func TestOrdinaryRegions(t *testing.T) {
	for ordinary, holds := range ordinaryConditions() {
		got, ok := impl.OrdinaryCells(ordinary)
		isRegion(t, got, ok, regionOf(cellsWhere(holds)...))
	}
	for ordinary, picture := range map[int]string{
		impl.OrdBend: bendBandPicture, impl.OrdChevron: chevronPicture, impl.OrdSaltire: saltireBandPicture,
	} {
		got, ok := impl.OrdinaryCells(ordinary)
		isRegion(t, got, ok, drawn(0, 0, picture))
	}
	none, ok := impl.OrdinaryCells(impl.OrdNone)
	isRegion(t, none, ok, regionOf())
}

func TestOtherPartsAndOrdinaries(t *testing.T) {
	others := append(farNumbers(), -2, 8, 9, 24, 1<<32, 1<<32+3)
	for _, x := range others {
		for part := -1; part <= 2; part++ {
			got, ok := impl.PartRegion(x, part)
			isNoRegion(t, got, ok)
		}
		got, ok := impl.OrdinaryCells(x)
		isNoRegion(t, got, ok)
	}
	for division := range 8 {
		for _, part := range append(others, 2, 3, 4, 5, 6, 7) {
			got, ok := impl.PartRegion(division, part)
			isNoRegion(t, got, ok)
		}
	}
}

// TestCombineEveryPair combines every pair of some regions, each with itself too.
func TestCombineEveryPair(t *testing.T) {
	list := someRegions(t)
	for _, a := range list {
		for _, b := range list {
			in := func(r impl.Region, x, y int) bool { return r.Rows[y]>>x&1 == 1 }
			for how, holds := range map[int]func(x, y int) bool{
				1: func(x, y int) bool { return in(a, x, y) || in(b, x, y) },
				2: func(x, y int) bool { return in(a, x, y) && in(b, x, y) },
				3: func(x, y int) bool { return in(a, x, y) && !in(b, x, y) },
			} {
				want := regionOf()
				for y := range 24 {
					for x := range 20 {
						if holds(x, y) {
							want.Rows[y] |= 1 << x
						}
					}
				}
				got, ok := impl.CombineRegions(a, b, how)
				isRegion(t, got, ok, want)
			}
		}
	}
}

func TestCombineRegionsExamples(t *testing.T) {
	none, shield := regionOf(), impl.ShieldRegion()
	left, right := drawn(2, 3, "###\n###"), drawn(6, 3, "###\n###")
	cross := drawn(3, 2, "#\n#\n#\n#")
	for _, c := range []struct {
		a, b impl.Region
		how  int
		want impl.Region
	}{
		// The same region twice.
		{left, left, impl.CombineUnion, left}, {left, left, impl.CombineIntersection, left}, {left, left, impl.CombineDifference, none},
		{none, none, impl.CombineUnion, none}, {none, none, impl.CombineIntersection, none}, {none, none, impl.CombineDifference, none},
		{shield, shield, impl.CombineUnion, shield}, {shield, shield, impl.CombineDifference, none},
		// No common cell.
		{left, right, impl.CombineUnion, drawn(2, 3, "###.###\n###.###")}, {left, right, impl.CombineIntersection, none},
		{left, right, impl.CombineDifference, left}, {right, left, impl.CombineDifference, right},
		// Some common cells, and a region within the other.
		{left, cross, impl.CombineUnion, drawn(2, 2, ".#.\n###\n###\n.#.")}, {left, cross, impl.CombineIntersection, drawn(3, 3, "#\n#")},
		{left, cross, impl.CombineDifference, drawn(2, 3, "#.#\n#.#")}, {cross, left, impl.CombineDifference, drawn(3, 2, "#\n.\n.\n#")},
		{shield, left, impl.CombineUnion, shield}, {left, shield, impl.CombineIntersection, left}, {left, shield, impl.CombineDifference, none},
		{left, none, impl.CombineUnion, left}, {none, left, impl.CombineDifference, none}, {left, none, impl.CombineDifference, left},
	} {
		got, ok := impl.CombineRegions(c.a, c.b, c.how)
		isRegion(t, got, ok, c.want)
	}
}

func TestMeasuresOfRegions(t *testing.T) {
	for _, m := range measuredRegions(t) {
		checkMeasures(t, m.region, m.want)
	}
	// All cells of a chequered region are pieces; the winding way is one.
	for i := range 2 {
		r := regionOf(cellsWhere(func(x, y int) bool { return (x+y)%2 == i })...)
		checkMeasures(t, r, measures{215, []int{0, 0, 19, 23}, 215, 860})
	}
	if n, ok := impl.PiecesOf(windingWay()); !ok || n != 1 {
		t.Error("winding way:", n, ok)
	}
}

// TestMeasuresAgreeWithCells compares what the functions tell with what the cells tell.
func TestMeasuresAgreeWithCells(t *testing.T) {
	for _, r := range someRegions(t) {
		checkMeasures(t, r, measure(r))
	}
	for _, c := range cellsOfShield() {
		checkMeasures(t, regionOf(c), measures{1, []int{c[0], c[1], c[0], c[1]}, 1, 4})
	}
	for seed := range 300 {
		r := scattered(seed+1000, 2+seed%3)
		checkMeasures(t, r, measure(r))
	}
}

func TestInvalidRegions(t *testing.T) {
	valid := regionOf(cell{9, 9})
	for _, r := range noRegions() {
		if n, ok := impl.AreaOf(r); ok || n != 0 {
			t.Errorf("AreaOf(%v) = %d, %v", r, n, ok)
		}
		if b, ok := impl.BoundsOf(r); ok || len(b) != 0 {
			t.Errorf("BoundsOf(%v) = %v, %v", r, b, ok)
		}
		if n, ok := impl.PiecesOf(r); ok || n != 0 {
			t.Errorf("PiecesOf(%v) = %d, %v", r, n, ok)
		}
		if n, ok := impl.EdgeLength(r); ok || n != 0 {
			t.Errorf("EdgeLength(%v) = %d, %v", r, n, ok)
		}
		for how := range 5 {
			for _, pair := range [][2]impl.Region{{r, valid}, {valid, r}, {r, r}} {
				got, ok := impl.CombineRegions(pair[0], pair[1], how)
				isNoRegion(t, got, ok)
			}
		}
	}
}

func TestOtherWaysOfCombining(t *testing.T) {
	for _, how := range append(farNumbers(), 0, 4, 5, -2, -3, 1<<32+2, 1<<32+3) {
		for _, a := range []impl.Region{regionOf(), regionOf(cell{0, 0}), impl.ShieldRegion(), {}} {
			for _, b := range []impl.Region{regionOf(), regionOf(cell{0, 0}), impl.ShieldRegion(), {}} {
				got, ok := impl.CombineRegions(a, b, how)
				isNoRegion(t, got, ok)
			}
		}
	}
}

// TestRegionsAreNewMemory changes results and what lies behind their ends.
func TestRegionsAreNewMemory(t *testing.T) {
	calls := []func() []int{
		func() []int { return impl.ShieldRegion().Rows },
		func() []int { b, _ := impl.BoundsOf(impl.ShieldRegion()); return b },
	}
	for n := range 8 {
		for part := range 2 {
			calls = append(calls, func() []int { r, _ := impl.PartRegion(n, part); return r.Rows })
		}
		calls = append(calls, func() []int { r, _ := impl.OrdinaryCells(n); return r.Rows })
	}
	for _, call := range calls {
		first := call()
		kept := slices.Clone(first)
		second := call()
		for i := range first {
			first[i] = 77
		}
		_ = append(first[:1], 78, 79)
		if third := call(); !slices.Equal(second, kept) || !slices.Equal(third, kept) {
			t.Errorf("%v and %v instead of %v", second, third, kept)
		}
	}
}

// behind returns the same numbers as the start of a longer slice, and this slice.
func behind(rows []int) ([]int, []int) {
	longer := append(slices.Clone(rows), -5, 1<<40, 3, 0)
	return longer[:len(rows)], longer
}

// TestRegionsStayAsTheyAre hands over regions with numbers behind their ends, and changes results.
func TestRegionsStayAsTheyAre(t *testing.T) {
	list := append(someRegions(t), noRegions()[:40]...)
	for i, r := range list {
		other := list[(i*7+3)%len(list)]
		rows, longer := behind(r.Rows)
		otherRows, otherLonger := behind(other.Rows)
		kept, otherKept := slices.Clone(longer), slices.Clone(otherLonger)
		a, b := impl.Region{Rows: rows}, impl.Region{Rows: otherRows}
		impl.IsValidRegion(a)
		impl.AreaOf(a)
		impl.PiecesOf(a)
		impl.EdgeLength(a)
		if bounds, ok := impl.BoundsOf(a); ok {
			bounds[0], bounds[3] = 77, 78
		}
		for how := range 5 {
			for _, pair := range [][2]impl.Region{{a, b}, {b, a}, {a, a}} {
				if c, ok := impl.CombineRegions(pair[0], pair[1], how); ok {
					for y := range c.Rows {
						c.Rows[y] = 77
					}
					_ = append(c.Rows, 78)
				}
			}
		}
		if !slices.Equal(longer, kept) || !slices.Equal(otherLonger, otherKept) {
			t.Fatalf("%v and %v instead of %v and %v", longer, otherLonger, kept, otherKept)
		}
	}
}

// TestRegionsEndWithTheirRows looks at regions whose rows are the start of a longer slice.
func TestRegionsEndWithTheirRows(t *testing.T) {
	for _, m := range measuredRegions(t) {
		rows, _ := behind(m.region.Rows)
		checkMeasures(t, impl.Region{Rows: rows}, m.want)
		short, _ := behind(m.region.Rows[:23])
		if impl.IsValidRegion(impl.Region{Rows: short}) {
			t.Error("23 rows before other numbers")
		}
	}
}
