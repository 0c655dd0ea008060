package tests

import (
	"math"
	"slices"
	"testing"

	"loop.example/g00884/impl"
)

// mostBoxes is the number of boxes with which a region may be filled, and that a list may have.
const mostBoxes = 40

// unevenRegion is a region in which a box of size 4 is put where it is in the way of all others of
// this size, though there is room for two boxes of size 5.
const unevenRegion = `
...####
##########
##########
##########
##########
##########`

// cellsOfBox returns the places of a box, row by row and each row from the left.
func cellsOfBox(b impl.Box) []cell {
	var cells []cell
	for y := b.Y; y < b.Y+b.Size; y++ {
		for x := b.X; x < b.X+b.Size; x++ {
			cells = append(cells, cell{x, y})
		}
	}
	return cells
}

// isBox reports whether a box near the grid is valid as the document says it.
func isBox(b impl.Box) bool {
	if b.Size < 1 || b.Size > 8 {
		return false
	}
	return !slices.ContainsFunc(cellsOfBox(b), func(c cell) bool { return !inShield(c[0], c[1]) })
}

// everyBox returns all valid boxes.
func everyBox() []impl.Box {
	var list []impl.Box
	for n := 1; n <= 8; n++ {
		for y := range 24 {
			for x := range 20 {
				if b := (impl.Box{X: x, Y: y, Size: n}); isBox(b) {
					list = append(list, b)
				}
			}
		}
	}
	return list
}

// spreadBoxes returns valid boxes of all sizes at corners, at edges, at the foot and within.
func spreadBoxes() []impl.Box {
	list := []impl.Box{
		{X: 0, Y: 0, Size: 8}, {X: 12, Y: 0, Size: 8}, {X: 12, Y: 8, Size: 8}, {X: 0, Y: 8, Size: 8}, {X: 6, Y: 15, Size: 8}, {X: 7, Y: 18, Size: 6},
		{X: 7, Y: 23, Size: 1}, {X: 12, Y: 23, Size: 1}, {X: 0, Y: 15, Size: 1}, {X: 19, Y: 15, Size: 1}, {X: 19, Y: 0, Size: 1}, {X: 0, Y: 0, Size: 1},
	}
	for i, b := range everyBox() {
		if i%97 == 0 {
			list = append(list, b)
		}
	}
	return list
}

// noBoxes returns invalid boxes.
func noBoxes() []impl.Box {
	list := []impl.Box{
		{}, {X: 5, Y: 5}, {X: 5, Y: 5, Size: -1}, {X: 5, Y: 5, Size: 9}, {X: 0, Y: 0, Size: 20}, {X: 0, Y: 0, Size: 24}, {X: 9, Y: 9, Size: -8},
		{X: 20, Y: 0, Size: 1}, {X: 19, Y: 0, Size: 2}, {X: 13, Y: 0, Size: 8}, {X: -1, Y: 0, Size: 1}, {X: -1, Y: 0, Size: 8}, {X: -7, Y: 3, Size: 8},
		{X: 0, Y: -1, Size: 1}, {X: 0, Y: -1, Size: 8}, {X: 4, Y: -7, Size: 8}, {X: 9, Y: 24, Size: 1}, {X: 9, Y: 23, Size: 2}, {X: 7, Y: 19, Size: 6},
		{X: 8, Y: 17, Size: 8}, {X: 0, Y: 16, Size: 1}, {X: 19, Y: 23, Size: 1}, {X: 0, Y: 23, Size: 1}, {X: 0, Y: 12, Size: 5}, {X: 6, Y: 16, Size: 8},
		{X: 6, Y: 18, Size: 6}, {X: 7, Y: 17, Size: 7}, {X: 12, Y: 9, Size: 8}, {X: 20, Y: 24, Size: 8}, {X: -8, Y: -8, Size: 8},
	}
	for _, far := range append(farPlaces(), farNumbers()...) {
		for n := 1; n <= 8; n++ {
			if far < 10 || far > 11 {
				list = append(list, impl.Box{X: far, Y: 3, Size: n}, impl.Box{X: 3, Y: far, Size: n}, impl.Box{X: far, Y: far, Size: n})
			}
		}
		list = append(list, impl.Box{X: 3, Y: 3, Size: far}, impl.Box{X: far, Y: far, Size: far}, impl.Box{X: math.MinInt, Y: 3, Size: far},
			impl.Box{X: far, Y: math.MaxInt - 3, Size: math.MaxInt})
	}
	return list
}

// filledWith returns all boxes of a size with which the document fills a region.
func filledWith(r impl.Region, n int) []impl.Box {
	var list []impl.Box
	put := map[cell]bool{}
	for y := range 24 {
		for x := range 20 {
			b := impl.Box{X: x, Y: y, Size: n}
			cells := cellsOfBox(b)
			if slices.ContainsFunc(cells, func(c cell) bool { return c[1] > 23 || r.Rows[c[1]]>>c[0]&1 == 0 || put[c] }) {
				continue
			}
			list = append(list, b)
			for _, c := range cells {
				put[c] = true
			}
		}
	}
	return list
}

// largestOf returns the boxes that the document calls the largest ones of a region, for every
// count; none if there is no size.
func largestOf(r impl.Region) [7][]impl.Box {
	var largest [7][]impl.Box
	for n := 1; n <= 8; n++ {
		list := filledWith(r, n)
		for count := 1; count <= min(6, len(list)); count++ {
			largest[count] = list[:count]
		}
	}
	return largest
}

// regionsToFill returns those of someRegions, ragged ones and, for every ordinary with every line,
// its region and the ground.
func regionsToFill(t *testing.T) []impl.Region {
	list := append(someRegions(t), drawn(0, 0, unevenRegion), drawn(10, 9, unevenRegion))
	for _, f := range filledRegions() {
		list = append(list, f.region)
	}
	for line := range lineCount {
		for _, holds := range linedOrdinaryConditions(line) {
			list = append(list, regionOf(cellsWhere(holds)...),
				regionOf(cellsWhere(func(x, y int) bool { return !holds(x, y) })...))
		}
	}
	return list
}

// isBoxes fails the test unless a call has returned boxes that are wanted, and true.
func isBoxes(t *testing.T, got []impl.Box, ok bool, want []impl.Box) {
	t.Helper()
	if !ok || !slices.Equal(got, want) {
		t.Errorf("%v, %v instead of %v", got, ok, want)
	}
}

// isNoBoxes fails the test unless a call has returned no boxes and false.
func isNoBoxes(t *testing.T, got []impl.Box, ok bool) {
	t.Helper()
	if ok || len(got) != 0 {
		t.Errorf("%v, %v", got, ok)
	}
}

// areApart reports whether boxes lie in a region and no two of them have a cell in common, by
// looking at their cells.
func areApart(list []impl.Box, r impl.Region) bool {
	put := map[cell]bool{}
	for _, b := range list {
		for _, c := range cellsOfBox(b) {
			if put[c] || r.Rows[c[1]]>>c[0]&1 == 0 {
				return false
			}
			put[c] = true
		}
	}
	return true
}

// filledRegions returns regions with all boxes of a size with which they are filled.
func filledRegions() []struct {
	region impl.Region
	size   int
	want   []impl.Box
} {
	shield := regionOf(cellsOfShield()...)
	return []struct {
		region impl.Region
		size   int
		want   []impl.Box
	}{
		// No cell, one cell, and the whole shield.
		{regionOf(), 1, nil}, {regionOf(), 8, nil}, {regionOf(cell{0, 0}), 1, []impl.Box{{X: 0, Y: 0, Size: 1}}}, {regionOf(cell{0, 0}), 2, nil},
		{regionOf(cell{12, 23}), 1, []impl.Box{{X: 12, Y: 23, Size: 1}}}, {regionOf(cell{19, 15}), 1, []impl.Box{{X: 19, Y: 15, Size: 1}}},
		{shield, 8, []impl.Box{{X: 0, Y: 0, Size: 8}, {X: 8, Y: 0, Size: 8}, {X: 0, Y: 8, Size: 8}, {X: 8, Y: 8, Size: 8}}},
		{shield, 7, []impl.Box{
			{X: 0, Y: 0, Size: 7}, {X: 7, Y: 0, Size: 7}, {X: 0, Y: 7, Size: 7}, {X: 7, Y: 7, Size: 7}, {X: 3, Y: 14, Size: 7}, {X: 10, Y: 14, Size: 7},
		}},
		// The end of a row and the start of the next one are not beside each other.
		{regionOf(cell{19, 4}, cell{0, 5}, cell{19, 5}, cell{0, 6}), 2, nil},
		// Exactly one box, at corners of the grid, in row 12 and at the foot.
		{drawn(0, 0, "##\n##"), 2, []impl.Box{{X: 0, Y: 0, Size: 2}}}, {drawn(18, 0, "##\n##"), 2, []impl.Box{{X: 18, Y: 0, Size: 2}}},
		{drawn(18, 14, "##\n##"), 2, []impl.Box{{X: 18, Y: 14, Size: 2}}}, {drawn(18, 11, "##\n##"), 2, []impl.Box{{X: 18, Y: 11, Size: 2}}},
		{drawn(7, 22, "######\n######"), 2, []impl.Box{{X: 7, Y: 22, Size: 2}, {X: 9, Y: 22, Size: 2}, {X: 11, Y: 22, Size: 2}}},
		{drawn(7, 21, "###\n###\n###"), 3, []impl.Box{{X: 7, Y: 21, Size: 3}}}, {drawn(0, 12, "###\n###\n###"), 3, []impl.Box{{X: 0, Y: 12, Size: 3}}},
		// One cell is missing, at each corner and in the middle.
		{drawn(4, 4, ".##\n###\n###"), 3, nil}, {drawn(4, 4, "##.\n###\n###"), 3, nil}, {drawn(4, 4, "###\n###\n.##"), 3, nil},
		{drawn(4, 4, "###\n###\n##."), 3, nil}, {drawn(4, 4, "###\n#.#\n###"), 3, nil},
		{drawn(4, 4, ".##\n###\n###"), 2, []impl.Box{{X: 5, Y: 4, Size: 2}}}, {drawn(4, 4, "##.\n###\n###"), 2, []impl.Box{{X: 4, Y: 4, Size: 2}}},
		// Boxes side by side, one below the other, and too little room for a second one.
		{drawn(4, 4, "####\n####"), 2, []impl.Box{{X: 4, Y: 4, Size: 2}, {X: 6, Y: 4, Size: 2}}},
		{drawn(4, 4, "##\n##\n##\n##"), 2, []impl.Box{{X: 4, Y: 4, Size: 2}, {X: 4, Y: 6, Size: 2}}},
		{drawn(4, 4, "###\n###\n###"), 2, []impl.Box{{X: 4, Y: 4, Size: 2}}}, {drawn(4, 4, "#####\n#####"), 2, []impl.Box{{X: 4, Y: 4, Size: 2}, {X: 6, Y: 4, Size: 2}}},
		// A hole, and several pieces; a box needs one piece.
		{drawn(4, 4, "#####\n##.##\n#####"), 2, []impl.Box{{X: 4, Y: 4, Size: 2}, {X: 7, Y: 4, Size: 2}}},
		{drawn(4, 4, "##.##\n##.##\n.....\n.##..\n.##.."), 2, []impl.Box{{X: 4, Y: 4, Size: 2}, {X: 7, Y: 4, Size: 2}, {X: 5, Y: 7, Size: 2}}},
		{drawn(4, 4, "##..\n##..\n..##\n..##"), 2, []impl.Box{{X: 4, Y: 4, Size: 2}, {X: 6, Y: 6, Size: 2}}},
		{drawn(4, 4, "##.#\n##.#"), 2, []impl.Box{{X: 4, Y: 4, Size: 2}}},
		// Ragged edges: a box may start in the middle of a row, and be in the way of others.
		{drawn(4, 4, "##...\n####.\n.####\n..###"), 2, []impl.Box{{X: 4, Y: 4, Size: 2}, {X: 6, Y: 5, Size: 2}}},
		{drawn(4, 4, ".###\n####\n###."), 2, []impl.Box{{X: 5, Y: 4, Size: 2}}},
		{drawn(4, 4, "..##\n####\n####\n##.."), 2, []impl.Box{{X: 6, Y: 4, Size: 2}, {X: 4, Y: 5, Size: 2}}},
		{drawn(4, 4, "###.###\n#######\n..###.."), 2, []impl.Box{{X: 4, Y: 4, Size: 2}, {X: 8, Y: 4, Size: 2}, {X: 6, Y: 5, Size: 2}}},
		{drawn(0, 0, unevenRegion), 4, []impl.Box{{X: 3, Y: 0, Size: 4}}},
		{drawn(0, 0, unevenRegion), 5, []impl.Box{{X: 0, Y: 1, Size: 5}, {X: 5, Y: 1, Size: 5}}},
		{drawn(0, 0, unevenRegion), 3, []impl.Box{
			{X: 3, Y: 0, Size: 3}, {X: 0, Y: 1, Size: 3}, {X: 6, Y: 1, Size: 3}, {X: 3, Y: 3, Size: 3},
		}},
	}
}

func TestBoxConstant(t *testing.T) {
	if impl.MaxBox != 8 {
		t.Error(impl.MaxBox)
	}
}

// TestIsValidBox looks at all places in the grid and around it with all sizes and some others.
func TestIsValidBox(t *testing.T) {
	for n := -9; n <= 25; n++ {
		for y := -9; y <= 25; y++ {
			for x := -9; x <= 21; x++ {
				b := impl.Box{X: x, Y: y, Size: n}
				if impl.IsValidBox(b) != isBox(b) {
					t.Errorf("IsValidBox(%v) = %v", b, !isBox(b))
				}
			}
		}
	}
	for _, b := range noBoxes() {
		if impl.IsValidBox(b) {
			t.Errorf("IsValidBox(%v) = true", b)
		}
	}
}

func TestIsValidBoxExamples(t *testing.T) {
	for b, want := range map[impl.Box]bool{
		// The smallest and the largest boxes at the corners of the grid.
		{X: 0, Y: 0, Size: 1}: true, {X: 19, Y: 0, Size: 1}: true, {X: 0, Y: 0, Size: 8}: true, {X: 12, Y: 0, Size: 8}: true, {X: 13, Y: 0, Size: 8}: false,
		{X: 20, Y: 0, Size: 1}: false, {X: 0, Y: 0, Size: 9}: false, {X: 0, Y: 0, Size: 0}: false, {X: 0, Y: 23, Size: 1}: false,
		{X: 12, Y: 16, Size: 8}: false, {X: 0, Y: 16, Size: 8}: false, {X: 19, Y: 23, Size: 1}: false,
		// Row 12 and the rows below it: the first and the last columns end at row 15.
		{X: 0, Y: 12, Size: 1}: true, {X: 19, Y: 12, Size: 1}: true, {X: 0, Y: 12, Size: 4}: true, {X: 0, Y: 12, Size: 5}: false,
		{X: 1, Y: 12, Size: 5}: true, {X: 1, Y: 12, Size: 6}: true, {X: 1, Y: 12, Size: 7}: false, {X: 16, Y: 12, Size: 4}: true, {X: 15, Y: 12, Size: 5}: false,
		{X: 14, Y: 12, Size: 5}: true, {X: 12, Y: 8, Size: 8}: true, {X: 12, Y: 9, Size: 8}: false, {X: 11, Y: 9, Size: 8}: true, {X: 11, Y: 10, Size: 8}: true,
		{X: 11, Y: 11, Size: 8}: false, {X: 10, Y: 11, Size: 8}: true,
		// The foot of the shield.
		{X: 7, Y: 23, Size: 1}: true, {X: 12, Y: 23, Size: 1}: true, {X: 6, Y: 23, Size: 1}: false, {X: 13, Y: 23, Size: 1}: false,
		{X: 7, Y: 18, Size: 6}: true, {X: 6, Y: 18, Size: 6}: false, {X: 7, Y: 17, Size: 7}: false, {X: 7, Y: 16, Size: 7}: true, {X: 6, Y: 16, Size: 8}: false,
		{X: 4, Y: 15, Size: 8}: false, {X: 5, Y: 15, Size: 8}: true, {X: 7, Y: 15, Size: 8}: true, {X: 8, Y: 15, Size: 8}: false, {X: 9, Y: 24, Size: 1}: false,
		{X: 11, Y: 22, Size: 2}: true, {X: 12, Y: 22, Size: 2}: false, {X: 9, Y: 23, Size: 2}: false,
	} {
		if impl.IsValidBox(b) != want {
			t.Errorf("IsValidBox(%v) = %v", b, !want)
		}
	}
}

// TestBoxFits looks at every box in many regions.
func TestBoxFits(t *testing.T) {
	boxes := everyBox()
	for _, r := range regionsToFill(t) {
		for _, b := range boxes {
			want := !slices.ContainsFunc(cellsOfBox(b), func(c cell) bool { return r.Rows[c[1]]>>c[0]&1 == 0 })
			if fits, ok := impl.BoxFits(r, b); !ok || fits != want {
				t.Fatalf("BoxFits(%v, %v) = %v, %v", r, b, fits, ok)
			}
		}
	}
}

// TestBoxFitsExactly looks at regions that are one box, and those with one cell less.
func TestBoxFitsExactly(t *testing.T) {
	for _, b := range spreadBoxes() {
		cells := cellsOfBox(b)
		if fits, ok := impl.BoxFits(regionOf(cells...), b); !ok || !fits {
			t.Errorf("%v does not fit into its cells: %v", b, ok)
		}
		for i := range cells {
			if fits, ok := impl.BoxFits(regionOf(slices.Delete(slices.Clone(cells), i, i+1)...), b); !ok || fits {
				t.Errorf("%v fits without %v: %v", b, cells[i], ok)
			}
		}
	}
}

func TestInvalidBoxesAndRegionsFitNowhere(t *testing.T) {
	for _, r := range append(noRegions()[:200], impl.ShieldRegion(), regionOf()) {
		for _, b := range noBoxes() {
			if fits, ok := impl.BoxFits(r, b); ok || fits {
				t.Errorf("BoxFits(%v, %v) = %v, %v", r, b, fits, ok)
			}
		}
	}
	for _, r := range noRegions() {
		for _, b := range []impl.Box{{X: 0, Y: 0, Size: 1}, {X: 9, Y: 9, Size: 1}, {X: 6, Y: 15, Size: 8}, {X: 7, Y: 23, Size: 1}} {
			if fits, ok := impl.BoxFits(r, b); ok || fits {
				t.Errorf("BoxFits(%v, %v) = %v, %v", r, b, fits, ok)
			}
		}
	}
}

func TestFillRegionExamples(t *testing.T) {
	for _, f := range filledRegions() {
		got, ok := impl.FillRegion(f.region, f.size, mostBoxes)
		isBoxes(t, got, ok, f.want)
		for most := range len(f.want) {
			got, ok := impl.FillRegion(f.region, f.size, most)
			isBoxes(t, got, ok, f.want[:most])
		}
	}
}

// TestFillRegionWithCells fills the shield with boxes of one cell.
func TestFillRegionWithCells(t *testing.T) {
	cells := cellsOfShield()
	for most := range mostBoxes + 1 {
		got, ok := impl.FillRegion(impl.ShieldRegion(), 1, most)
		if !ok || len(got) != most {
			t.Fatal(most, got, ok)
		}
		for i, b := range got {
			if b != (impl.Box{X: cells[i][0], Y: cells[i][1], Size: 1}) {
				t.Errorf("box %d of %d is %v", i, most, b)
			}
		}
	}
}

// TestFillRegion fills many regions with boxes of every size.
func TestFillRegion(t *testing.T) {
	list := regionsToFill(t)
	for seed := range 200 {
		ragged := scattered(seed+3000, 3+seed%12)
		for y, row := range impl.ShieldRegion().Rows {
			ragged.Rows[y] ^= row
		}
		list = append(list, ragged)
	}
	for _, r := range list {
		for n := 1; n <= 8; n++ {
			want := filledWith(r, n)
			for _, most := range []int{0, 1, 2, 3, 6, 17, 39, 40} {
				got, ok := impl.FillRegion(r, n, most)
				isBoxes(t, got, ok, want[:min(most, len(want))])
				if !areApart(got, r) {
					t.Errorf("FillRegion(%v, %d, %d) = %v", r, n, most, got)
				}
			}
		}
	}
}

// TestFilledBoxesFit checks the promise of the chapter with the functions of the chapter.
func TestFilledBoxesFit(t *testing.T) {
	for _, r := range regionsToFill(t) {
		for n := 1; n <= 8; n++ {
			got, ok := impl.FillRegion(r, n, mostBoxes)
			if !ok {
				t.Fatal(r, n)
			}
			for _, b := range got {
				if fits, ok := impl.BoxFits(r, b); !ok || !fits || b.Size != n {
					t.Errorf("%v is put into %v: %v", b, r, ok)
				}
			}
			if overlap, ok := impl.BoxesOverlap(got); !ok || overlap {
				t.Errorf("%v in %v overlap: %v", got, r, ok)
			}
		}
	}
}

func TestFillRegionOutOfRange(t *testing.T) {
	for _, r := range []impl.Region{regionOf(), regionOf(cell{9, 9}), impl.ShieldRegion()} {
		for _, far := range append(farNumbers(), 0, 9, -2, -8, 20, 24, 63, 64, 65, 1<<32+3) {
			for _, most := range []int{-1, 0, 1, 40, 41, far} {
				got, ok := impl.FillRegion(r, far, most)
				isNoBoxes(t, got, ok)
			}
		}
		for _, far := range []int{-1, -2, -40, 41, 42, 430, 1 << 32, 1<<32 + 7, -1 << 32, math.MaxInt, math.MinInt, math.MinInt + 7} {
			for n := -1; n <= 9; n++ {
				got, ok := impl.FillRegion(r, n, far)
				isNoBoxes(t, got, ok)
			}
		}
	}
}

func TestInvalidRegionsAreNotFilled(t *testing.T) {
	for _, r := range noRegions() {
		for _, n := range []int{0, 1, 2, 8, 9} {
			for _, most := range []int{-1, 0, 6, 40, 41} {
				got, ok := impl.FillRegion(r, n, most)
				isNoBoxes(t, got, ok)
			}
		}
		for count := -1; count <= 7; count++ {
			got, ok := impl.LargestBoxes(r, count)
			isNoBoxes(t, got, ok)
		}
	}
}

// TestLargestBoxes looks for every number of boxes in many regions.
func TestLargestBoxes(t *testing.T) {
	list := regionsToFill(t)
	for seed := range 300 {
		list = append(list, scattered(seed+4000, 2+seed%200))
	}
	for _, r := range list {
		largest := largestOf(r)
		for count := 1; count <= 6; count++ {
			got, ok := impl.LargestBoxes(r, count)
			if len(largest[count]) == 0 {
				isNoBoxes(t, got, ok)
				continue
			}
			isBoxes(t, got, ok, largest[count])
			if !areApart(got, r) {
				t.Errorf("LargestBoxes(%v, %d) = %v", r, count, got)
			}
		}
	}
}

func TestLargestBoxesExamples(t *testing.T) {
	chief, pale := regionOf(cellsWhere(ordinaryConditions()[7])...), regionOf(cellsWhere(ordinaryConditions()[1])...)
	for _, c := range []struct {
		region impl.Region
		count  int
		want   []impl.Box
	}{
		{impl.ShieldRegion(), 1, []impl.Box{{X: 0, Y: 0, Size: 8}}},
		{impl.ShieldRegion(), 4, []impl.Box{{X: 0, Y: 0, Size: 8}, {X: 8, Y: 0, Size: 8}, {X: 0, Y: 8, Size: 8}, {X: 8, Y: 8, Size: 8}}},
		{impl.ShieldRegion(), 5, []impl.Box{
			{X: 0, Y: 0, Size: 7}, {X: 7, Y: 0, Size: 7}, {X: 0, Y: 7, Size: 7}, {X: 7, Y: 7, Size: 7}, {X: 3, Y: 14, Size: 7},
		}},
		{chief, 2, []impl.Box{{X: 0, Y: 0, Size: 8}, {X: 8, Y: 0, Size: 8}}},
		{chief, 3, []impl.Box{{X: 0, Y: 0, Size: 6}, {X: 6, Y: 0, Size: 6}, {X: 12, Y: 0, Size: 6}}},
		{chief, 4, []impl.Box{{X: 0, Y: 0, Size: 5}, {X: 5, Y: 0, Size: 5}, {X: 10, Y: 0, Size: 5}, {X: 15, Y: 0, Size: 5}}},
		{chief, 6, []impl.Box{
			{X: 0, Y: 0, Size: 4}, {X: 4, Y: 0, Size: 4}, {X: 8, Y: 0, Size: 4}, {X: 12, Y: 0, Size: 4}, {X: 16, Y: 0, Size: 4}, {X: 0, Y: 4, Size: 4},
		}},
		{pale, 4, []impl.Box{{X: 7, Y: 0, Size: 6}, {X: 7, Y: 6, Size: 6}, {X: 7, Y: 12, Size: 6}, {X: 7, Y: 18, Size: 6}}},
		{pale, 5, []impl.Box{{X: 7, Y: 0, Size: 4}, {X: 7, Y: 4, Size: 4}, {X: 7, Y: 8, Size: 4}, {X: 7, Y: 12, Size: 4}, {X: 7, Y: 16, Size: 4}}},
		// The greatest size has so many boxes, though a smaller one has not; and one with fewer cells.
		{drawn(0, 0, unevenRegion), 1, []impl.Box{{X: 0, Y: 1, Size: 5}}},
		{drawn(0, 0, unevenRegion), 2, []impl.Box{{X: 0, Y: 1, Size: 5}, {X: 5, Y: 1, Size: 5}}},
		{drawn(0, 0, unevenRegion), 3, []impl.Box{{X: 3, Y: 0, Size: 3}, {X: 0, Y: 1, Size: 3}, {X: 6, Y: 1, Size: 3}}},
		{drawn(4, 4, ".###\n####\n###."), 1, []impl.Box{{X: 5, Y: 4, Size: 2}}},
		{drawn(4, 4, ".###\n####\n###."), 2, []impl.Box{{X: 5, Y: 4, Size: 1}, {X: 6, Y: 4, Size: 1}}},
		{drawn(7, 23, "######"), 6, []impl.Box{
			{X: 7, Y: 23, Size: 1}, {X: 8, Y: 23, Size: 1}, {X: 9, Y: 23, Size: 1}, {X: 10, Y: 23, Size: 1}, {X: 11, Y: 23, Size: 1}, {X: 12, Y: 23, Size: 1},
		}},
	} {
		got, ok := impl.LargestBoxes(c.region, c.count)
		isBoxes(t, got, ok, c.want)
	}
}

// TestLargestBoxesOfFewCells looks at regions with fewer cells than boxes.
func TestLargestBoxesOfFewCells(t *testing.T) {
	cells := []cell{{0, 0}, {19, 0}, {5, 12}, {0, 15}, {7, 23}, {12, 23}}
	for n := range len(cells) + 1 {
		r := regionOf(cells[:n]...)
		for count := 1; count <= 6; count++ {
			got, ok := impl.LargestBoxes(r, count)
			if count > n {
				isNoBoxes(t, got, ok)
			} else if !ok || len(got) != count || got[count-1] != (impl.Box{X: cells[count-1][0], Y: cells[count-1][1], Size: 1}) {
				t.Errorf("%d of %d cells: %v, %v", count, n, got, ok)
			}
		}
	}
}

func TestLargestBoxesOutOfRange(t *testing.T) {
	for _, r := range regionsToFill(t) {
		for _, count := range append(farNumbers(), 0, 7, 8, -2, -6, 40, 1<<32+3, math.MinInt+3) {
			got, ok := impl.LargestBoxes(r, count)
			isNoBoxes(t, got, ok)
		}
	}
}

// plainArms returns arms on a blue field with a gold ordinary, if any, and with groups of so many
// charges.
func plainArms(ordinary, line, on, around int) impl.Arms {
	a := impl.Arms{Field: plainBlue, Ordinary: ordinary}
	if ordinary != impl.OrdNone {
		a.Line, a.Tincture = line, impl.Gold
	}
	if on > 0 {
		a.On = impl.Group{Count: on, Kind: impl.KindStar, Tincture: impl.Red}
	}
	if around > 0 {
		a.Around = impl.Group{Count: around, Kind: impl.KindLion, Attitude: 1, Tincture: impl.Silver}
	}
	return a
}

// TestOrdinariesAndGrounds compares both regions of arms with the document's conditions.
func TestOrdinariesAndGrounds(t *testing.T) {
	for _, a := range someArms() {
		holds := linedOrdinaryConditions(a.Line)[a.Ordinary]
		ordinary, ok := impl.ArmsOrdinary(a)
		isRegion(t, ordinary, ok, regionOf(cellsWhere(holds)...))
		ground, ok := impl.GroundOf(a)
		isRegion(t, ground, ok, regionOf(cellsWhere(func(x, y int) bool { return !holds(x, y) })...))
	}
	for _, b := range linedBands {
		ordinary, ok := impl.ArmsOrdinary(plainArms(b.ordinary, b.line, 0, 0))
		isRegion(t, ordinary, ok, drawn(0, 0, b.picture))
	}
}

// TestOrdinaryAndGroundMakeUpShield combines both regions of arms.
func TestOrdinaryAndGroundMakeUpShield(t *testing.T) {
	for _, a := range fewArms() {
		ordinary, ok := impl.ArmsOrdinary(a)
		ground, fine := impl.GroundOf(a)
		if !ok || !fine {
			t.Fatal(a)
		}
		union, ok := impl.CombineRegions(ordinary, ground, impl.CombineUnion)
		isRegion(t, union, ok, impl.ShieldRegion())
		common, ok := impl.CombineRegions(ordinary, ground, impl.CombineIntersection)
		isRegion(t, common, ok, regionOf())
		if a.Ordinary == impl.OrdNone {
			isRegion(t, ordinary, true, regionOf())
			isRegion(t, ground, true, impl.ShieldRegion())
		}
	}
}

// TestPlaceCharges places every number of charges on and around every ordinary with every line.
// All of them have a place.
func TestPlaceCharges(t *testing.T) {
	for ordinary := range ordinaryCount {
		for line := range lineCount {
			holds := linedOrdinaryConditions(line)[ordinary]
			inside := regionOf(cellsWhere(holds)...)
			outside := regionOf(cellsWhere(func(x, y int) bool { return !holds(x, y) })...)
			on, around := largestOf(inside), largestOf(outside)
			for n := range 7 {
				for m := range 7 {
					if ordinary == impl.OrdNone && n > 0 {
						continue
					}
					a := plainArms(ordinary, line, n, m)
					first, second, ok := impl.PlaceCharges(a)
					isBoxes(t, first, ok, on[n])
					isBoxes(t, second, ok, around[m])
					if len(first) != n || len(second) != m || !areApart(first, inside) || !areApart(second, outside) {
						t.Errorf("PlaceCharges(%v) = %v, %v", a, first, second)
					}
				}
			}
		}
	}
}

func TestPlaceChargesExamples(t *testing.T) {
	for text, want := range map[string][2][]impl.Box{
		"blue":                               {},
		"per pale wavy gold and blue":        {},
		"blue, a bend gold":                  {},
		"per fess gold and blue, a rose red": {nil, {{X: 0, Y: 0, Size: 8}}},
		"blue, three lions rampant gold":     {nil, {{X: 0, Y: 0, Size: 8}, {X: 8, Y: 0, Size: 8}, {X: 0, Y: 8, Size: 8}}},
		"blue, six stars gold": {nil, {
			{X: 0, Y: 0, Size: 7}, {X: 7, Y: 0, Size: 7}, {X: 0, Y: 7, Size: 7}, {X: 7, Y: 7, Size: 7}, {X: 3, Y: 14, Size: 7}, {X: 10, Y: 14, Size: 7},
		}},
		"blue, a cross gold charged with four roses red": {
			{{X: 8, Y: 0, Size: 4}, {X: 8, Y: 4, Size: 4}, {X: 8, Y: 8, Size: 4}, {X: 0, Y: 10, Size: 4}}, nil,
		},
		"blue, a fess gold between two stars silver": {nil, {{X: 0, Y: 0, Size: 8}, {X: 8, Y: 0, Size: 8}}},
		"blue, a fess gold charged with a rose red between three stars silver": {
			{{X: 0, Y: 8, Size: 8}}, {{X: 0, Y: 0, Size: 7}, {X: 7, Y: 0, Size: 7}, {X: 5, Y: 16, Size: 7}},
		},
		"blue, a chief gold charged with two roses red above a star gold": {
			{{X: 0, Y: 0, Size: 8}, {X: 8, Y: 0, Size: 8}}, {{X: 0, Y: 8, Size: 8}},
		},
	} {
		on, around, ok := impl.PlaceCharges(armsOf(t, text))
		isBoxes(t, on, ok, want[0])
		isBoxes(t, around, ok, want[1])
	}
}

// TestPlacedChargesDoNotOverlap checks the promise of the chapter with the functions of the
// chapter, and that neither the field nor tinctures and kinds of charges change the places.
func TestPlacedChargesDoNotOverlap(t *testing.T) {
	for _, a := range someArms() {
		on, around, ok := impl.PlaceCharges(a)
		ordinary, _ := impl.ArmsOrdinary(a)
		ground, _ := impl.GroundOf(a)
		if !ok || len(on) != a.On.Count || len(around) != a.Around.Count {
			t.Fatalf("PlaceCharges(%v) = %v, %v, %v", a, on, around, ok)
		}
		for _, b := range on {
			if fits, ok := impl.BoxFits(ordinary, b); !ok || !fits {
				t.Errorf("%v: %v does not fit", a, b)
			}
		}
		for _, b := range around {
			if fits, ok := impl.BoxFits(ground, b); !ok || !fits {
				t.Errorf("%v: %v does not fit", a, b)
			}
		}
		if overlap, ok := impl.BoxesOverlap(slices.Concat(on, around)); !ok || overlap {
			t.Errorf("%v: %v and %v overlap", a, on, around)
		}
		plain := plainArms(a.Ordinary, a.Line, a.On.Count, a.Around.Count)
		first, second, ok := impl.PlaceCharges(plain)
		isBoxes(t, first, ok, on)
		isBoxes(t, second, ok, around)
	}
}

func TestInvalidArmsHaveNoPlaces(t *testing.T) {
	for _, a := range noArms() {
		ordinary, ok := impl.ArmsOrdinary(a)
		isNoRegion(t, ordinary, ok)
		ground, ok := impl.GroundOf(a)
		isNoRegion(t, ground, ok)
		on, around, ok := impl.PlaceCharges(a)
		isNoBoxes(t, on, ok)
		isNoBoxes(t, around, ok)
	}
}

// overlapping reports whether two of some boxes have a cell in common, by looking at their cells.
func overlapping(list []impl.Box) bool { return !areApart(list, impl.ShieldRegion()) }

// TestPairsOfBoxes looks at some boxes, each with every other one and with itself.
func TestPairsOfBoxes(t *testing.T) {
	for _, a := range spreadBoxes() {
		for _, b := range everyBox() {
			for _, list := range [][]impl.Box{{a, b}, {b, a}} {
				if overlap, ok := impl.BoxesOverlap(list); !ok || overlap != overlapping(list) {
					t.Fatalf("BoxesOverlap(%v) = %v, %v", list, overlap, ok)
				}
			}
		}
	}
}

func TestBoxesOverlapExamples(t *testing.T) {
	for _, c := range []struct {
		list []impl.Box
		want bool
	}{
		{nil, false}, {[]impl.Box{}, false}, {[]impl.Box{{X: 0, Y: 0, Size: 1}}, false}, {[]impl.Box{{X: 6, Y: 15, Size: 8}}, false},
		// The same box twice.
		{[]impl.Box{{X: 3, Y: 4, Size: 1}, {X: 3, Y: 4, Size: 1}}, true}, {[]impl.Box{{X: 3, Y: 4, Size: 8}, {X: 3, Y: 4, Size: 8}}, true},
		// One cell in common, at each corner, and a box within another one.
		{[]impl.Box{{X: 3, Y: 4, Size: 3}, {X: 5, Y: 6, Size: 2}}, true}, {[]impl.Box{{X: 3, Y: 4, Size: 3}, {X: 2, Y: 6, Size: 2}}, true},
		{[]impl.Box{{X: 3, Y: 4, Size: 3}, {X: 5, Y: 3, Size: 2}}, true}, {[]impl.Box{{X: 3, Y: 4, Size: 3}, {X: 2, Y: 3, Size: 2}}, true},
		{[]impl.Box{{X: 3, Y: 4, Size: 3}, {X: 4, Y: 5, Size: 1}}, true}, {[]impl.Box{{X: 3, Y: 4, Size: 3}, {X: 5, Y: 4, Size: 1}}, true},
		// Boxes that touch at a side, and at a corner.
		{[]impl.Box{{X: 3, Y: 4, Size: 3}, {X: 6, Y: 4, Size: 3}}, false}, {[]impl.Box{{X: 3, Y: 4, Size: 3}, {X: 0, Y: 5, Size: 3}}, false},
		{[]impl.Box{{X: 3, Y: 4, Size: 3}, {X: 4, Y: 7, Size: 3}}, false}, {[]impl.Box{{X: 3, Y: 4, Size: 3}, {X: 3, Y: 1, Size: 3}}, false},
		{[]impl.Box{{X: 3, Y: 4, Size: 3}, {X: 6, Y: 7, Size: 3}}, false}, {[]impl.Box{{X: 3, Y: 4, Size: 3}, {X: 0, Y: 7, Size: 3}}, false},
		{[]impl.Box{{X: 3, Y: 4, Size: 3}, {X: 6, Y: 1, Size: 3}}, false}, {[]impl.Box{{X: 3, Y: 4, Size: 3}, {X: 2, Y: 3, Size: 1}}, false},
		// The columns in common or the rows in common are not enough.
		{[]impl.Box{{X: 3, Y: 4, Size: 3}, {X: 3, Y: 12, Size: 3}}, false}, {[]impl.Box{{X: 3, Y: 4, Size: 3}, {X: 12, Y: 4, Size: 3}}, false},
		// A tall box reaches one that starts below others.
		{[]impl.Box{{X: 0, Y: 0, Size: 8}, {X: 8, Y: 0, Size: 1}, {X: 9, Y: 1, Size: 1}, {X: 10, Y: 3, Size: 4}, {X: 7, Y: 7, Size: 1}}, true},
		{[]impl.Box{{X: 0, Y: 0, Size: 8}, {X: 8, Y: 0, Size: 1}, {X: 9, Y: 1, Size: 1}, {X: 10, Y: 3, Size: 4}, {X: 7, Y: 8, Size: 1}}, false},
		{[]impl.Box{{X: 7, Y: 7, Size: 1}, {X: 10, Y: 3, Size: 4}, {X: 8, Y: 0, Size: 1}, {X: 0, Y: 0, Size: 8}}, true},
	} {
		if overlap, ok := impl.BoxesOverlap(c.list); !ok || overlap != c.want {
			t.Errorf("BoxesOverlap(%v) = %v, %v", c.list, overlap, ok)
		}
	}
}

// apartBoxes returns up to 80 boxes in no order of their places, no two of which overlap.
func apartBoxes(t *testing.T, n int) []impl.Box {
	var list []impl.Box
	for i := range n {
		place := i * 37 % 80
		list = append(list, impl.Box{X: 2 * (place % 10), Y: 2 * (place / 10), Size: 2})
	}
	if overlapping(list) {
		t.Fatal(list)
	}
	return list
}

// TestLongListsOfBoxes looks at lists of up to 40 boxes and at longer ones.
func TestLongListsOfBoxes(t *testing.T) {
	for _, n := range []int{0, 1, 2, 5, 39, 40, 41, 42, 80} {
		if overlap, ok := impl.BoxesOverlap(apartBoxes(t, n)); overlap || ok != (n <= 40) {
			t.Errorf("%d boxes: %v, %v", n, overlap, ok)
		}
		if n < 41 {
			continue
		}
		for _, b := range []impl.Box{{X: 3, Y: 4, Size: 3}, {}} {
			if overlap, ok := impl.BoxesOverlap(slices.Repeat([]impl.Box{b}, n)); overlap || ok {
				t.Errorf("%d boxes %v: %v, %v", n, b, overlap, ok)
			}
		}
	}
	// Any two of 40 boxes, the first and the last one too, may be those that overlap.
	list := apartBoxes(t, mostBoxes)
	for i, b := range list {
		for j := range list {
			if i == j {
				continue
			}
			changed := slices.Clone(list)
			changed[j] = impl.Box{X: b.X + 1, Y: b.Y + 1, Size: 1}
			if overlap, ok := impl.BoxesOverlap(changed); !ok || !overlap {
				t.Errorf("boxes %d and %d: %v, %v", i, j, overlap, ok)
			}
		}
	}
}

// TestScatteredBoxes looks at lists of a few boxes of all sizes.
func TestScatteredBoxes(t *testing.T) {
	boxes, state, both := everyBox(), uint32(1), [2]int{}
	for i := range 4000 {
		var list []impl.Box
		for range 2 + i%6 {
			state = state*1664525 + 1013904223
			list = append(list, boxes[int(state>>12)%(len(boxes)*2/3)])
		}
		want := overlapping(list)
		if want {
			both[1]++
		} else {
			both[0]++
		}
		if overlap, ok := impl.BoxesOverlap(list); !ok || overlap != want {
			t.Fatalf("BoxesOverlap(%v) = %v, %v", list, overlap, ok)
		}
	}
	if both[0] < 500 || both[1] < 500 {
		t.Error(both)
	}
}

func TestInvalidBoxesDoNotOverlap(t *testing.T) {
	for _, b := range noBoxes() {
		for _, list := range [][]impl.Box{{b}, {b, b}, {b, {X: 5, Y: 5, Size: 8}}, {{X: 5, Y: 5, Size: 8}, b}} {
			if overlap, ok := impl.BoxesOverlap(list); overlap || ok {
				t.Errorf("BoxesOverlap(%v) = %v, %v", list, overlap, ok)
			}
		}
	}
	// Boxes that overlap before or behind the invalid one change nothing.
	for _, n := range []int{1, 2, 3, 40} {
		for i := range n {
			for _, list := range [][]impl.Box{apartBoxes(t, n), slices.Repeat([]impl.Box{{X: 3, Y: 4, Size: 3}}, n)} {
				for _, b := range noBoxes()[:30] {
					list[i] = b
					if overlap, ok := impl.BoxesOverlap(list); overlap || ok {
						t.Errorf("BoxesOverlap(%v) = %v, %v", list, overlap, ok)
					}
				}
			}
		}
	}
}

// TestBoxesAreNewMemory changes results and what lies behind their ends.
func TestBoxesAreNewMemory(t *testing.T) {
	other := impl.Box{X: 77, Y: 78, Size: 79}
	r := impl.ShieldRegion()
	a := plainArms(impl.OrdPale, impl.LineWavy, 4, 5)
	calls := []func() []impl.Box{
		func() []impl.Box { list, _ := impl.FillRegion(r, 3, 40); return list },
		func() []impl.Box { list, _ := impl.LargestBoxes(r, 6); return list },
		func() []impl.Box { on, _, _ := impl.PlaceCharges(a); return on },
		func() []impl.Box { _, around, _ := impl.PlaceCharges(a); return around },
	}
	for _, call := range calls {
		first := call()
		kept := slices.Clone(first)
		second := call()
		for i := range first {
			first[i] = other
		}
		_ = append(first, other, other)
		_ = append(first[:1], other, other)
		isBoxes(t, second, true, kept)
		isBoxes(t, call(), true, kept)
	}
	on, around, _ := impl.PlaceCharges(a)
	keptOn, keptAround := slices.Clone(on), slices.Clone(around)
	_ = append(on, slices.Repeat([]impl.Box{other}, 20)...)
	isBoxes(t, around, true, keptAround)
	for i := range around {
		around[i] = other
	}
	_ = append(around, slices.Repeat([]impl.Box{other}, 20)...)
	isBoxes(t, on, true, keptOn)
	for _, call := range []func(impl.Arms) (impl.Region, bool){impl.ArmsOrdinary, impl.GroundOf} {
		for _, arms := range []impl.Arms{a, {Field: plainBlue}} {
			first, ok := call(arms)
			kept := impl.Region{Rows: slices.Clone(first.Rows)}
			for y := range first.Rows {
				first.Rows[y] = 77
			}
			second, fine := call(arms)
			isRegion(t, second, ok && fine, kept)
		}
	}
}

// TestRegionsStayWhenFilled hands over regions with numbers behind their ends, and changes results.
func TestRegionsStayWhenFilled(t *testing.T) {
	for _, r := range append(regionsToFill(t), noRegions()[:40]...) {
		rows, longer := behind(r.Rows)
		kept := slices.Clone(longer)
		region := impl.Region{Rows: rows}
		for n := 1; n <= 8; n++ {
			first, ok := impl.FillRegion(region, n, mostBoxes)
			second, fine := impl.FillRegion(r, n, mostBoxes)
			if ok != fine || !slices.Equal(first, second) {
				t.Errorf("FillRegion of the start of longer rows: %v, %v", first, ok)
			}
			impl.LargestBoxes(region, n)
			impl.BoxFits(region, impl.Box{X: 3, Y: 4, Size: n})
		}
		if !slices.Equal(longer, kept) {
			t.Fatalf("%v instead of %v", longer, kept)
		}
	}
}

// TestListsOfBoxesStayAsTheyAre hands over lists with boxes behind their ends.
func TestListsOfBoxesStayAsTheyAre(t *testing.T) {
	lists := [][]impl.Box{nil, noBoxes()[:40], noBoxes()[:41], apartBoxes(t, 40), apartBoxes(t, 41), spreadBoxes()}
	lists = append(lists, slices.Concat(apartBoxes(t, 30), []impl.Box{{X: 1, Y: 1, Size: 8}}), everyBox()[800:840])
	for _, list := range lists {
		// With the boxes behind the end the list would be invalid, too long and overlapping.
		longer := slices.Concat(list, []impl.Box{{}, {X: 1, Y: 1, Size: 8}, {X: 1, Y: 1, Size: 8}}, apartBoxes(t, 40))
		kept := slices.Clone(longer)
		overlap, ok := impl.BoxesOverlap(longer[:len(list)])
		wantOverlap, wantOK := impl.BoxesOverlap(slices.Clone(list))
		if overlap != wantOverlap || ok != wantOK {
			t.Errorf("BoxesOverlap(%v) = %v, %v", list, overlap, ok)
		}
		if !slices.Equal(longer, kept) {
			t.Errorf("%v instead of %v", longer, kept)
		}
	}
}
