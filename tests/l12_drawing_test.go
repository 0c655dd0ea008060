package tests

import (
	"math"
	"slices"
	"strings"
	"testing"

	"loop.example/g00884/impl"
)

// lettersOfTinctures holds the letters for no tincture and for the tinctures 1 to 9.
const lettersOfTinctures = ".gsrbknpev"

// kindCount is the number of kinds.
const kindCount = 8

// canvas holds a number for every cell of the grid, row by row.
type canvas [24][20]int

// shapePictures are pictures of the shapes in boxes with 1 to 8 rows, side by side.
var shapePictures = []struct {
	kind, attitude int
	picture        string
}{
	{impl.KindLion, 1, `
#  ##  .#.  .##.  .###.  .####.  .#####.  .######.
   ##  ###  ####  #####  ######  #######  ########
       .#.  ####  #####  ######  #######  ########
            .##.  #####  ######  #######  ########
                  .###.  ######  #######  ########
                         .####.  #######  ########
                                 .#####.  ########
                                          .######.`},
	{impl.KindLion, 2, `
#  ##  .#.  .##.  .###.  .####.  .#####.  .######.
   ##  ###  ####  #####  ######  #######  ########
       .#.  ####  #####  ######  #######  ########
            .##.  #####  ######  #######  ########
                  .###.  ######  #######  ########
                         .####.  #######  ########
                                 .#####.  ########
                                          .######.`},
	{impl.KindEagle, 1, `
#  ##  #.#  #..#  #...#  #....#  #.....#  #......#
   ##  ###  ####  ##.##  ##..##  ##...##  ##....##
       #.#  ####  #####  ######  ###.###  ###..###
            #..#  ##.##  ######  #######  ########
                  #...#  ##..##  ###.###  ########
                         #....#  ##...##  ###..###
                                 #.....#  ##....##
                                          #......#`},
	{impl.KindEagle, 2, `
#  ##  ###  ####  #####  ######  #######  ########
   ##  .#.  .##.  .###.  .####.  .#####.  .######.
       ###  .##.  ..#..  ..##..  ..###..  ..####..
            ####  .###.  ..##..  ...#...  ...##...
                  #####  .####.  ..###..  ...##...
                         ######  .#####.  ..####..
                                 #######  .######.
                                          ########`},
	{impl.KindFish, 1, `
#  ##  ...  ....  .....  ......  .......  ........
   ##  ###  ####  #####  ######  .......  ........
       ...  ####  #####  ######  #######  ########
            ....  #####  ######  #######  ########
                  .....  ######  #######  ########
                         ......  .......  ########
                                 .......  ........
                                          ........`},
	{impl.KindFish, 2, `
#  ##  .#.  .##.  .###.  .####.  ..###..  ..####..
   ##  .#.  .##.  .###.  .####.  ..###..  ..####..
       .#.  .##.  .###.  .####.  ..###..  ..####..
            .##.  .###.  .####.  ..###..  ..####..
                  .###.  .####.  ..###..  ..####..
                         .####.  ..###..  ..####..
                                 ..###..  ..####..
                                          ..####..`},
	{impl.KindRose, 0, `
#  ##  ###  .##.  .###.  .####.  ..###..  ..####..
   ##  ###  ####  #####  ######  .#####.  .######.
       ###  ####  #####  ######  #######  ########
            .##.  #####  ######  #######  ########
                  .###.  ######  #######  ########
                         .####.  .#####.  ########
                                 ..###..  .######.
                                          ..####..`},
	{impl.KindStar, 0, `
#  ##  .#.  .##.  .###.  .####.  ..###..  ..####..
   ##  ###  ####  #####  ######  ..###..  ..####..
       .#.  ####  #####  ######  #######  ########
            .##.  #####  ######  #######  ########
                  .###.  ######  #######  ########
                         .####.  ..###..  ########
                                 ..###..  ..####..
                                          ..####..`},
	{impl.KindTower, 0, `
#  ##  .#.  .##.  .###.  .####.  ..###..  ..####..
   ##  .#.  .##.  .###.  .####.  ..###..  ..####..
       ###  ####  .###.  .####.  ..###..  ..####..
            ####  #####  ######  ..###..  ..####..
                  #####  ######  #######  ########
                         ######  #######  ########
                                 #######  ########
                                          ########`},
	{impl.KindKey, 0, `
#  ##  ###  ####  #####  ######  #######  ########
   ..  .#.  ####  #####  ######  #######  ########
       .#.  .##.  ..#..  ######  #######  ########
            .##.  ..#..  ..##..  ..###..  ########
                  ..#..  ..##..  ..###..  ...##...
                         ..##..  ..###..  ...##...
                                 ..###..  ...##...
                                          ...##...`},
	{impl.KindSword, 0, `
#  ..  .#.  .##.  ..#..  ..##..  ..###..  ...##...
   ##  ###  .##.  ..#..  ..##..  ..###..  ...##...
       .#.  ####  #####  ..##..  ..###..  ...##...
            .##.  ..#..  ######  #######  ...##...
                  ..#..  ..##..  ..###..  ########
                         ..##..  ..###..  ...##...
                                 ..###..  ...##...
                                          ...##...`},
}

// drawings are drawings of arms, in letters, with the numbers of cells of their layers and of the
// tinctures 1 to 9.
var drawings = []struct {
	text      string
	layers    []int
	tinctures []int
	letters   string
}{
	{"per saltire wavy gold and blue", []int{430}, []int{216, 0, 0, 214, 0, 0, 0, 0, 0}, `
gggggggggggggggggggg
bbggggggggggggggggbb
bbggggggggggggggggbb
bbggggggggggggggggbb
bbbbggggggggggggbbbb
bbbbbggggggggggbbbbb
bbbbbggggggggggbbbbb
bbbbbbggggggggbbbbbb
bbbbbbggggggggbbbbbb
bbbbbbbbbggbbbbbbbbb
bbbbbbbbbggbbbbbbbbb
bbbbbbbbbbbbbbbbbbbb
bbbbbbbbbbbbbbbbbbbb
bbbbbbbbbggbbbbbbbbb
bbbbbbbggggggbbbbbbb
bbbbbbbggggggbbbbbbb
.bbbbbbggggggbbbbbb.
.bbbbggggggggggbbbb.
..bbggggggggggggbb..
..bbggggggggggggbb..
...gggggggggggggg...
....gggggggggggg....
.....gggggggggg.....
.......gggggg.......`},
	{"blue, a bend embattled gold", []int{302, 128}, []int{128, 0, 0, 302, 0, 0, 0, 0, 0}, `
ggggbbbbbbbbbbbbbbbb
ggggggbbbbbbbbbbbbbb
ggggggbbbbbbbbbbbbbb
bgggggbgbbbbbbbbbbbb
ggggggggbbbbbbbbbbbb
bbbgggggbgbbbbbbbbbb
bbggggggggbbbbbbbbbb
bbbbbgggggbbbbbbbbbb
bbbbggggggggbbbbbbbb
bbbbbbgggggbbbbbbbbb
bbbbbbggggggggbbbbbb
bbbbbbgbgggggbbbbbbb
bbbbbbbbgggggggbbbbb
bbbbbbbbgbgggggbbbbb
bbbbbbbbbbgggggbgbbb
bbbbbbbbbbgggggggbbb
.bbbbbbbbbbbgggggbg.
.bbbbbbbbbbgggggggg.
..bbbbbbbbbbbbgggg..
..bbbbbbbbbbbggggg..
...bbbbbbbbbbbbgg...
....bbbbbbbbbbbg....
.....bbbbbbbbbb.....
.......bbbbbb.......`},
	{"per fess gold and blue, a rose red", []int{378, 52}, []int{188, 0, 52, 190, 0, 0, 0, 0, 0}, `
ggrrrrgggggggggggggg
grrrrrrggggggggggggg
rrrrrrrrgggggggggggg
rrrrrrrrgggggggggggg
rrrrrrrrgggggggggggg
rrrrrrrrgggggggggggg
grrrrrrggggggggggggg
ggrrrrgggggggggggggg
gggggggggggggggggggg
gggggggggggggggggggg
gggggggggggggggggggg
gggggggggggggggggggg
bbbbbbbbbbbbbbbbbbbb
bbbbbbbbbbbbbbbbbbbb
bbbbbbbbbbbbbbbbbbbb
bbbbbbbbbbbbbbbbbbbb
.bbbbbbbbbbbbbbbbbb.
.bbbbbbbbbbbbbbbbbb.
..bbbbbbbbbbbbbbbb..
..bbbbbbbbbbbbbbbb..
...bbbbbbbbbbbbbb...
....bbbbbbbbbbbb....
.....bbbbbbbbbb.....
.......bbbbbb.......`},
	{"blue, a pale gold charged with two stars red between two keys silver", []int{220, 80, 64, 66}, []int{80, 66, 64, 220, 0, 0, 0, 0, 0}, `
sssssssgrrrrgsssssss
sssssssrrrrrrsssssss
sssssssrrrrrrsssssss
bbsssbbrrrrrrbbsssbb
bbsssbbrrrrrrbbsssbb
bbsssbbgrrrrgbbsssbb
bbsssbbgrrrrgbbsssbb
bbbbbbbrrrrrrbbbbbbb
bbbbbbbrrrrrrbbbbbbb
bbbbbbbrrrrrrbbbbbbb
bbbbbbbrrrrrrbbbbbbb
bbbbbbbgrrrrgbbbbbbb
bbbbbbbggggggbbbbbbb
bbbbbbbggggggbbbbbbb
bbbbbbbggggggbbbbbbb
bbbbbbbggggggbbbbbbb
.bbbbbbggggggbbbbbb.
.bbbbbbggggggbbbbbb.
..bbbbbggggggbbbbb..
..bbbbbggggggbbbbb..
...bbbbggggggbbbb...
....bbbggggggbbb....
.....bbggggggbb.....
.......gggggg.......`},
	{"per pale indented ermine and vair, a fess engrailed red charged with three eagles rising gold", []int{270, 88, 72}, []int{72, 0, 88, 0, 0, 0, 0, 151, 119}, `
eeeeeeeeeevvvvvvvvvv
eeeeeeeeeeevvvvvvvvv
eeeeeeeeeeeevvvvvvvv
eeeeeeeeeeevvvvvvvvv
eeeeeeeeeevvvvvvvvvv
eeeeeeeeeeevvvvvvvvv
eeeeeeeeeeeevvvvvvvv
eeeeeeeeeeevvvvvvvvv
reerreerrevrrvvrrvvr
ggggggggggggggggggrr
rggggrrggggrrggggrrr
rrggrrrrggrrrrggrrrr
rrggrrrrggrrrrggrrrr
rggggrrggggrrggggrrr
ggggggggggggggggggrr
rrrrrrrrrrrrrrrrrrrr
.rreerreerrvvrrvvrr.
.eeeeeeeeeevvvvvvvv.
..eeeeeeeeeevvvvvv..
..eeeeeeeeevvvvvvv..
...eeeeeeevvvvvvv...
....eeeeeeevvvvv....
.....eeeeeeevvv.....
.......eeeevv.......`},
	{"quarterly silver and red, a chevron wavy gold between five lions rampant black", []int{221, 104, 105}, []int{104, 100, 121, 0, 105, 0, 0, 0, 0}, `
skkksskkksrkkkrrkkkr
kkkkkkkkkkkkkkkkkkkk
kkkkkkkkkkkkkkkkkkkk
kkkkkkkkkkkkkkkkkkkk
skkksskkksrkkkrrkkkr
skkkssssssrrrrrrrrrr
kkkkksssssrrrrrrrrrr
kkkkksssggggrrrrrrrr
kkkkksggggggggrrrrrr
skkksggggggggggrrrrr
sssssggggggggggrrrrr
ssssggggggggggggrrrr
rrrggggggggggggggsss
rrrgggggrrssgggggsss
rrggggrrrrssssggggss
gggggrrrrrsssssggggg
.ggggrrrrrsssssgggg.
.gggrrrrrrssssssggg.
..grrrrrrrsssssssg..
..grrrrrrrsssssssg..
...rrrrrrrsssssss...
....rrrrrrssssss....
.....rrrrrsssss.....
.......rrrsss.......`},
	{"barry gold and green, a chief silver charged with a sword purple above an eagle displayed red", []int{230, 138, 22, 40}, []int{128, 138, 40, 0, 0, 102, 22, 0, 0}, `
sssppsssssssssssssss
sssppsssssssssssssss
sssppsssssssssssssss
sssppsssssssssssssss
ppppppppssssssssssss
sssppsssssssssssssss
sssppsssssssssssssss
sssppsssssssssssssss
rggggggrgggggggggggg
rrggggrrgggggggggggg
rrrggrrrgggggggggggg
rrrrrrrrgggggggggggg
rrrrrrrrnnnnnnnnnnnn
rrrnnrrrnnnnnnnnnnnn
rrnnnnrrnnnnnnnnnnnn
rnnnnnnrnnnnnnnnnnnn
.gggggggggggggggggg.
.gggggggggggggggggg.
..gggggggggggggggg..
..gggggggggggggggg..
...nnnnnnnnnnnnnn...
....nnnnnnnnnnnn....
.....nnnnnnnnnn.....
.......nnnnnn.......`},
	{"blue, a saltire gold charged with six towers red between four fish upright vair", []int{184, 156, 30, 60}, []int{156, 0, 30, 184, 0, 0, 0, 0, 60}, `
grgbbbbvvvbbbbbbbgrg
grggbbbvvvbbbbbbggrg
rrrggbbvvvbbbbbggrrr
gggrgbbvvvbbbbbgrggg
bggrggbvvvbbbbggrggb
bbrrrggbbbbbbggrrrbb
bbbgggrgbbbbgrgggbbb
bbbbggrggbbggrggbbbb
bvvvbrrrggggrrrbvvvb
bvvvbggggggggggbvvvb
bvvvbbggggggggbbvvvb
bvvvbbbggggggbbbvvvb
bvvvbbbggggggbbbvvvb
bbbbbbggggggggbbbbbb
bbbbbggggggggggbbbbb
bbbbbggggggggggbbbbb
.bbbgggggbbgggggbbb.
.bbgggggbbbbgggggbb.
..gggggbvvvbbggggg..
..ggggbbvvvbbbgggg..
...ggbbbvvvbbbbgg...
....gbbbvvvbbbbg....
.....bbbvvvbbbb.....
.......bbbbbb.......`},
}

// shapeConditions returns for every kind, from 1, the document's condition for its cells in a box
// with n rows.
func shapeConditions(n int) []func(p, q int) bool {
	return []func(p, q int) bool{
		nil,
		func(p, q int) bool { return size(p)+size(q) <= 2*n-4 || n <= 2 },
		func(p, q int) bool { return size(p) >= size(q) },
		func(p, q int) bool { return 2*size(q) <= n },
		func(p, q int) bool { return p*p+q*q <= n*n },
		func(p, q int) bool { return 2*size(p) <= n || 2*size(q) <= n },
		func(p, q int) bool { return 2*size(p) <= n || q > 0 },
		func(p, q int) bool { return 3*size(p) <= n || q < 0 },
		func(p, q int) bool { return 3*size(p) <= n || q == 0 || q == 1 },
	}
}

// belongsToShape reports whether a cell of a box belongs to a shape as the document says it.
func belongsToShape(kind, attitude, n, u, v int) bool {
	p, q := 2*u+1-n, 2*v+1-n
	if attitude == 2 {
		p, q = q, p
	}
	return shapeConditions(n)[kind](p, q)
}

// attitudesOf returns the attitudes that a kind has.
func attitudesOf(kind int) []int {
	if kind <= impl.KindFish {
		return []int{1, 2}
	}
	return []int{0}
}

// everyShape visits every kind with every attitude that it has in boxes with every number of rows.
func everyShape(visit func(kind, attitude, n int)) {
	for kind := 1; kind <= kindCount; kind++ {
		for _, attitude := range attitudesOf(kind) {
			for n := 1; n <= 8; n++ {
				visit(kind, attitude, n)
			}
		}
	}
}

// areasOfShapes returns for every kind, from 1, the numbers of cells of its shapes in boxes with 1 to
// 8 rows.
func areasOfShapes() [kindCount + 1][]int {
	return [kindCount + 1][]int{
		nil,
		{1, 4, 5, 12, 21, 32, 45, 60}, {1, 4, 7, 12, 17, 24, 31, 40}, {1, 4, 3, 8, 15, 24, 21, 32}, {1, 4, 9, 12, 21, 32, 37, 52},
		{1, 4, 5, 12, 21, 32, 33, 48}, {1, 4, 5, 12, 19, 30, 33, 48}, {1, 2, 5, 12, 13, 24, 33, 40}, {1, 2, 5, 10, 9, 16, 25, 22},
	}
}

// checkShapeCell compares a cell of a shape with what is wanted.
func checkShapeCell(t *testing.T, kind, attitude, n, u, v int, want bool) {
	t.Helper()
	if belongs, ok := impl.ShapeCell(kind, attitude, n, u, v); !ok || belongs != want {
		t.Errorf("ShapeCell(%d, %d, %d, %d, %d) = %v, %v instead of %v", kind, attitude, n, u, v, belongs, ok, want)
	}
}

// checkNoShapeCell fails the test unless there is no such cell.
func checkNoShapeCell(t *testing.T, kind, attitude, n, u, v int) {
	t.Helper()
	if belongs, ok := impl.ShapeCell(kind, attitude, n, u, v); ok || belongs {
		t.Errorf("ShapeCell(%d, %d, %d, %d, %d) = %v, %v", kind, attitude, n, u, v, belongs, ok)
	}
}

// checkNoShape fails the test unless there is no such shape.
func checkNoShape(t *testing.T, kind, attitude, n int) {
	t.Helper()
	if cells, ok := impl.ShapeCells(kind, attitude, n); ok || cells != 0 {
		t.Errorf("ShapeCells(%d, %d, %d) = %d, %v", kind, attitude, n, cells, ok)
	}
	for _, c := range []cell{{0, 0}, {1, 0}, {0, 1}, {3, 3}, {7, 7}, {-1, -1}, {n, n}, {n - 1, n - 1}} {
		checkNoShapeCell(t, kind, attitude, n, c[0], c[1])
	}
}

// TestShapePictures compares all cells of all shapes with their pictures.
func TestShapePictures(t *testing.T) {
	pictures := 0
	for _, p := range shapePictures {
		rows := strings.Split(strings.TrimPrefix(p.picture, "\n"), "\n")
		left := 0
		for n := 1; n <= 8; n++ {
			for v := range n {
				for u := range n {
					checkShapeCell(t, p.kind, p.attitude, n, u, v, rows[v][left+u] == '#')
				}
			}
			left += n + 2
			pictures++
		}
	}
	shapes := 0
	everyShape(func(kind, attitude, n int) { shapes++ })
	if pictures != shapes || shapes != 11*8 {
		t.Errorf("%d pictures of %d shapes", pictures, shapes)
	}
}

// TestShapesHoldConditions compares all places in boxes and around them with the document's
// conditions.
func TestShapesHoldConditions(t *testing.T) {
	everyShape(func(kind, attitude, n int) {
		for v := -10; v <= 18; v++ {
			for u := -10; u <= 18; u++ {
				if 0 <= u && u < n && 0 <= v && v < n {
					checkShapeCell(t, kind, attitude, n, u, v, belongsToShape(kind, attitude, n, u, v))
				} else {
					checkNoShapeCell(t, kind, attitude, n, u, v)
				}
			}
		}
	})
}

func TestShapeCellExamples(t *testing.T) {
	for _, c := range []struct {
		kind, attitude, n, u, v int
		want                    bool
	}{
		// A box with one row, which every kind fills, and boxes with two rows.
		{impl.KindLion, 1, 1, 0, 0, true}, {impl.KindEagle, 2, 1, 0, 0, true}, {impl.KindFish, 1, 1, 0, 0, true}, {impl.KindSword, 0, 1, 0, 0, true},
		{impl.KindLion, 1, 2, 0, 0, true}, {impl.KindLion, 2, 2, 1, 1, true}, {impl.KindLion, 1, 3, 0, 0, false}, {impl.KindLion, 1, 3, 1, 0, true},
		{impl.KindKey, 0, 2, 0, 0, true}, {impl.KindKey, 0, 2, 0, 1, false}, {impl.KindSword, 0, 2, 1, 0, false}, {impl.KindSword, 0, 2, 1, 1, true},
		// Corners and the cells beside them; the sum for a lion is exactly 12 in a box with 8 rows.
		{impl.KindLion, 1, 8, 0, 0, false}, {impl.KindLion, 1, 8, 1, 0, true}, {impl.KindLion, 1, 8, 0, 1, true}, {impl.KindLion, 2, 8, 7, 7, false},
		{impl.KindLion, 2, 8, 6, 7, true}, {impl.KindLion, 1, 7, 0, 6, false}, {impl.KindLion, 1, 7, 1, 6, true}, {impl.KindLion, 1, 4, 3, 0, false},
		// The diagonals of an eagle, which belong to both attitudes, and the cells beside them.
		{impl.KindEagle, 1, 7, 0, 0, true}, {impl.KindEagle, 2, 7, 0, 0, true}, {impl.KindEagle, 1, 7, 1, 0, false}, {impl.KindEagle, 2, 7, 1, 0, true},
		{impl.KindEagle, 1, 7, 0, 1, true}, {impl.KindEagle, 2, 7, 0, 1, false}, {impl.KindEagle, 1, 7, 3, 3, true}, {impl.KindEagle, 2, 8, 4, 3, true},
		{impl.KindEagle, 1, 8, 5, 2, true}, {impl.KindEagle, 1, 8, 4, 2, false}, {impl.KindEagle, 2, 8, 4, 2, true}, {impl.KindEagle, 2, 8, 5, 3, false},
		// Twice 3 is exactly 6, and twice 4 is more than 7.
		{impl.KindFish, 1, 6, 0, 1, true}, {impl.KindFish, 1, 6, 0, 0, false}, {impl.KindFish, 2, 6, 1, 0, true}, {impl.KindFish, 2, 6, 0, 1, false},
		{impl.KindFish, 1, 7, 6, 1, false}, {impl.KindFish, 1, 7, 6, 2, true}, {impl.KindFish, 1, 5, 0, 0, false}, {impl.KindFish, 1, 5, 0, 1, true},
		{impl.KindFish, 1, 4, 0, 0, false}, {impl.KindFish, 2, 4, 1, 3, true}, {impl.KindFish, 2, 4, 3, 1, false},
		{impl.KindStar, 0, 6, 1, 0, true}, {impl.KindStar, 0, 6, 0, 1, true}, {impl.KindStar, 0, 6, 0, 0, false}, {impl.KindStar, 0, 7, 1, 1, false},
		{impl.KindStar, 0, 7, 2, 1, true}, {impl.KindStar, 0, 7, 1, 2, true},
		// A rose has 49 and 9 in a box with 8 rows, but not 49 and 25.
		{impl.KindRose, 0, 8, 0, 2, true}, {impl.KindRose, 0, 8, 0, 1, false}, {impl.KindRose, 0, 8, 1, 1, true}, {impl.KindRose, 0, 3, 0, 0, true},
		{impl.KindRose, 0, 7, 0, 1, false}, {impl.KindRose, 0, 7, 1, 1, true}, {impl.KindRose, 0, 4, 0, 0, false}, {impl.KindRose, 0, 5, 0, 1, true},
		// The middle row of a box with an odd number of rows is neither above nor below the middle.
		{impl.KindTower, 0, 5, 0, 2, false}, {impl.KindTower, 0, 5, 0, 3, true}, {impl.KindTower, 0, 5, 1, 2, true}, {impl.KindTower, 0, 6, 0, 3, true},
		{impl.KindTower, 0, 6, 0, 2, false}, {impl.KindTower, 0, 6, 1, 0, true}, {impl.KindTower, 0, 3, 0, 1, false}, {impl.KindTower, 0, 3, 2, 2, true},
		{impl.KindKey, 0, 5, 0, 2, false}, {impl.KindKey, 0, 5, 0, 1, true}, {impl.KindKey, 0, 5, 2, 4, true}, {impl.KindKey, 0, 6, 0, 3, false},
		{impl.KindKey, 0, 6, 0, 2, true}, {impl.KindKey, 0, 7, 2, 6, true}, {impl.KindKey, 0, 7, 1, 6, false}, {impl.KindKey, 0, 3, 1, 2, true},
		// The crossbar of a sword is the middle row, or the row below the middle.
		{impl.KindSword, 0, 5, 0, 2, true}, {impl.KindSword, 0, 5, 0, 1, false}, {impl.KindSword, 0, 5, 0, 3, false}, {impl.KindSword, 0, 7, 6, 3, true},
		{impl.KindSword, 0, 6, 0, 3, true}, {impl.KindSword, 0, 6, 0, 2, false}, {impl.KindSword, 0, 6, 5, 4, false}, {impl.KindSword, 0, 6, 2, 5, true},
		{impl.KindSword, 0, 8, 3, 0, true}, {impl.KindSword, 0, 8, 2, 0, false}, {impl.KindSword, 0, 8, 0, 4, true},
	} {
		checkShapeCell(t, c.kind, c.attitude, c.n, c.u, c.v, c.want)
	}
}

// TestShapeCells compares the numbers of cells with the table and with ShapeCell.
func TestShapeCells(t *testing.T) {
	everyShape(func(kind, attitude, n int) {
		cells, ok := impl.ShapeCells(kind, attitude, n)
		if want := areasOfShapes()[kind][n-1]; !ok || cells != want {
			t.Errorf("ShapeCells(%d, %d, %d) = %d, %v instead of %d", kind, attitude, n, cells, ok, want)
		}
		counted := 0
		for i := range n * n {
			if belongs, _ := impl.ShapeCell(kind, attitude, n, i%n, i/n); belongs {
				counted++
			}
		}
		if cells != counted {
			t.Errorf("ShapeCells(%d, %d, %d) = %d instead of %d", kind, attitude, n, cells, counted)
		}
	})
}

// TestTurnedShapes compares the shapes of both attitudes of a kind, and how often they are the same.
func TestTurnedShapes(t *testing.T) {
	same := map[int]int{}
	for kind := impl.KindLion; kind <= impl.KindFish; kind++ {
		for n := 1; n <= 8; n++ {
			equal := true
			for i := range n * n {
				first, ok := impl.ShapeCell(kind, 1, n, i%n, i/n)
				second, fine := impl.ShapeCell(kind, 2, n, i/n, i%n)
				unturned, _ := impl.ShapeCell(kind, 2, n, i%n, i/n)
				if !ok || !fine || first != second {
					t.Errorf("kind %d, %d rows, cell %d: %v and %v", kind, n, i, first, second)
				}
				equal = equal && first == unturned
			}
			if equal {
				same[kind]++
			}
			first, _ := impl.ShapeCells(kind, 1, n)
			if second, ok := impl.ShapeCells(kind, 2, n); !ok || first != second {
				t.Errorf("kind %d, %d rows: %d and %d cells", kind, n, first, second)
			}
		}
	}
	if same[impl.KindLion] != 8 || same[impl.KindEagle] != 2 || same[impl.KindFish] != 2 {
		t.Error(same)
	}
}

func TestNoShapes(t *testing.T) {
	for n := 1; n <= 8; n++ {
		for _, kind := range append(farNumbers(), 0, 9, -2, -8, 1<<62+1, math.MinInt+2) {
			for _, attitude := range []int{-1, 0, 1, 2, 3, kind} {
				checkNoShape(t, kind, attitude, n)
			}
		}
		for kind := 1; kind <= kindCount; kind++ {
			for _, attitude := range append(farNumbers(), -2, 0, 1, 2, 3, 4, 8, 1<<32+2, 1<<62, math.MinInt+2) {
				if !slices.Contains(attitudesOf(kind), attitude) {
					checkNoShape(t, kind, attitude, n)
				}
			}
		}
	}
	for kind := 1; kind <= kindCount; kind++ {
		for _, attitude := range attitudesOf(kind) {
			for _, n := range append(farNumbers(), -2, -8, 0, 9, 16, 20, 24, 64, 1<<32+4, 1<<62, math.MinInt+4) {
				checkNoShape(t, kind, attitude, n)
			}
		}
	}
	for _, far := range append(farNumbers(), 0) {
		checkNoShape(t, far, far, far)
	}
}

func TestCellsFarFromShapes(t *testing.T) {
	everyShape(func(kind, attitude, n int) {
		for _, far := range append(farPlaces(), farNumbers()...) {
			for i := range n {
				checkNoShapeCell(t, kind, attitude, n, far, i)
				checkNoShapeCell(t, kind, attitude, n, i, far)
			}
			for _, other := range append(farPlaces(), n) {
				checkNoShapeCell(t, kind, attitude, n, far, other)
				checkNoShapeCell(t, kind, attitude, n, other, far)
			}
		}
	})
}

// placesOfCharges holds, for every ordinary and line, the boxes of so many charges on the ordinary and
// around it, as the document says it.
type placesOfCharges map[[2]int][2][7][]impl.Box

// of returns the boxes of the charges of arms, on the ordinary and around it.
func (places placesOfCharges) of(a impl.Arms) (on, around []impl.Box) {
	key := [2]int{a.Ordinary, a.Line}
	if _, ok := places[key]; !ok {
		holds := linedOrdinaryConditions(a.Line)[a.Ordinary]
		inside := regionOf(cellsWhere(holds)...)
		outside := regionOf(cellsWhere(func(x, y int) bool { return !holds(x, y) })...)
		places[key] = [2][7][]impl.Box{largestOf(inside), largestOf(outside)}
	}
	return places[key][0][a.On.Count], places[key][1][a.Around.Count]
}

// paint returns the tinctures of all cells of arms and the numbers, from 1, of the layers that they
// show; both are 0 outside the shield.
func (places placesOfCharges) paint(a impl.Arms) (tinctures, layers canvas) {
	holds := linedOrdinaryConditions(a.Line)[a.Ordinary]
	for _, c := range cellsOfShield() {
		x, y := c[0], c[1]
		tinctures[y][x] = []int{a.Field.First, a.Field.Second}[partOf(a.Field, x, y)]
		layers[y][x] = 1
		if holds(x, y) {
			tinctures[y][x], layers[y][x] = a.Tincture, 2
		}
	}
	on, around := places.of(a)
	layer := 2
	if a.Ordinary == impl.OrdNone {
		layer = 1
	}
	for i, boxes := range [][]impl.Box{on, around} {
		g := []impl.Group{a.On, a.Around}[i]
		if g.Count > 0 {
			layer++
		}
		for _, b := range boxes {
			for _, c := range cellsOfBox(b) {
				if belongsToShape(g.Kind, g.Attitude, b.Size, c[0]-b.X, c[1]-b.Y) {
					tinctures[c[1]][c[0]], layers[c[1]][c[0]] = g.Tincture, layer
				}
			}
		}
	}
	return tinctures, layers
}

// countsOf returns how often the numbers 1 to n are on a canvas.
func countsOf(numbers canvas, n int) []int {
	counts := make([]int, n+1)
	for _, row := range numbers {
		for _, x := range row {
			counts[x]++
		}
	}
	return counts[1:]
}

// painted returns the canvas with the tinctures of a drawing in letters.
func painted(letters string) canvas {
	var c canvas
	for y, row := range strings.Split(strings.TrimPrefix(letters, "\n"), "\n") {
		for x := range row {
			c[y][x] = strings.IndexByte(lettersOfTinctures, row[x])
		}
	}
	return c
}

// isDrawing fails the test unless a call has returned a drawing that is wanted, and true.
func isDrawing(t *testing.T, a impl.Arms, got [][]int, ok bool, want canvas) {
	t.Helper()
	if !ok || len(got) != 24 {
		t.Fatalf("the drawing of %v has %d rows, %v", a, len(got), ok)
	}
	for y, row := range got {
		if !slices.Equal(row, want[y][:]) {
			t.Errorf("row %d of %v is %v instead of %v", y, a, row, want[y])
		}
	}
}

// isNumbers fails the test unless a call has returned numbers that are wanted, and true.
func isNumbers(t *testing.T, a impl.Arms, got []int, ok bool, want []int) {
	t.Helper()
	if !ok || !slices.Equal(got, want) {
		t.Errorf("%v: %v, %v instead of %v", a, got, ok, want)
	}
}

// checkDrawing compares the drawing of arms and what is counted in it with what the document says.
func (places placesOfCharges) checkDrawing(t *testing.T, a impl.Arms) {
	t.Helper()
	tinctures, layers := places.paint(a)
	got, ok := impl.PaintArms(a)
	isDrawing(t, a, got, ok, tinctures)
	n, _ := impl.LayerCount(a)
	cells, ok := impl.LayerCells(a)
	isNumbers(t, a, cells, ok, countsOf(layers, n))
	cells, ok = impl.TinctureCells(a)
	isNumbers(t, a, cells, ok, countsOf(tinctures, 9))
}

// chargedArms returns arms with all numbers of all charges, on and around every ordinary with every
// line and without an ordinary.
func chargedArms() []impl.Arms {
	var list []impl.Arms
	groups := someGroups()
	for i, g := range groups {
		other := groups[(i*31+7)%len(groups)]
		g.Tincture, other.Tincture = 1+i%9, 1+i*5%9
		list = append(list, impl.Arms{Field: plainBlue, Around: g}, impl.Arms{Field: paleGoldRed, Around: g})
		ordinary := 1 + i%7
		for line := range lineCount {
			a := impl.Arms{Field: plainBlue, Ordinary: ordinary, Line: line, Tincture: impl.Green}
			for _, pair := range [][2]impl.Group{{g, {}}, {{}, g}, {g, other}, {other, g}} {
				a.On, a.Around = pair[0], pair[1]
				list = append(list, a)
			}
		}
	}
	return list
}

// fieldArms returns arms with every division and line of the field, without layers above it and with
// some.
func fieldArms() []impl.Arms {
	var list []impl.Arms
	for i, f := range someFields() {
		list = append(list, impl.Arms{Field: f}, impl.Arms{Field: f, Around: twoLions},
			impl.Arms{Field: f, Ordinary: 1 + i%7, Line: i % 5, Tincture: impl.Purple},
			impl.Arms{Field: f, Ordinary: 1 + i%7, Line: i / 7 % 5, Tincture: impl.Purple, On: threeRoses, Around: sixStars})
	}
	return list
}

// TestDrawings compares drawings with those in letters.
func TestDrawings(t *testing.T) {
	for _, d := range drawings {
		a := armsOf(t, d.text)
		want := painted(d.letters)
		got, ok := impl.PaintArms(a)
		isDrawing(t, a, got, ok, want)
		cells, ok := impl.LayerCells(a)
		isNumbers(t, a, cells, ok, d.layers)
		cells, ok = impl.TinctureCells(a)
		isNumbers(t, a, cells, ok, d.tinctures)
		checkTinctureAt(t, a, want)
	}
}

// TestDrawingsOfManyArms compares drawings with the document's rules.
func TestDrawingsOfManyArms(t *testing.T) {
	places := placesOfCharges{}
	for _, a := range slices.Concat(someArms(), chargedArms(), fieldArms()) {
		places.checkDrawing(t, a)
	}
	for _, f := range []impl.Field{plainBlue, paleGoldRed} {
		for ordinary := range ordinaryCount {
			for line := range lineCount {
				for n := range 7 {
					for _, m := range []int{0, 1 + n%6} {
						a := plainArms(ordinary, line, n, m)
						if ordinary == impl.OrdNone {
							a.On = impl.Group{}
						}
						a.Field = f
						places.checkDrawing(t, a)
					}
				}
			}
		}
	}
}

// checkTinctureAt compares the tinctures at all places in the grid and around it with what is wanted.
func checkTinctureAt(t *testing.T, a impl.Arms, want canvas) {
	t.Helper()
	for y := -2; y <= 25; y++ {
		for x := -2; x <= 21; x++ {
			got, ok := impl.TinctureAt(a, x, y)
			if !inShield(x, y) {
				if ok || got != 0 {
					t.Errorf("TinctureAt(%v, %d, %d) = %d, %v", a, x, y, got, ok)
				}
			} else if !ok || got != want[y][x] {
				t.Errorf("TinctureAt(%v, %d, %d) = %d, %v instead of %d", a, x, y, got, ok, want[y][x])
			}
		}
	}
}

// TestTinctureAt looks at all cells of a few arms.
func TestTinctureAt(t *testing.T) {
	places := placesOfCharges{}
	for i, a := range slices.Concat(fewArms(), chargedArms()) {
		if i < 3 || i%53 == 0 {
			tinctures, _ := places.paint(a)
			checkTinctureAt(t, a, tinctures)
		}
	}
}

func TestTinctureAtExamples(t *testing.T) {
	text := "per pale red and blue, a fess gold charged with a key black between two eagles displayed silver"
	a := armsOf(t, text)
	for c, want := range map[cell]int{
		// The field alone, in both of its parts, and at the foot.
		{1, 0}: impl.Red, {9, 16}: impl.Red, {10, 16}: impl.Blue, {19, 0}: impl.Blue, {7, 23}: impl.Red, {12, 23}: impl.Blue,
		// The ordinary over the field, in row 12 too.
		{8, 8}: impl.Gold, {19, 8}: impl.Gold, {19, 12}: impl.Gold, {0, 15}: impl.Gold, {19, 15}: impl.Gold,
		// The key on the ordinary; it does not fill its box.
		{0, 8}: impl.Black, {7, 11}: impl.Black, {3, 12}: impl.Black, {4, 15}: impl.Black, {2, 12}: impl.Gold, {5, 15}: impl.Gold,
		// The eagles around it.
		{0, 0}: impl.Silver, {7, 7}: impl.Silver, {3, 3}: impl.Silver, {8, 0}: impl.Silver, {15, 0}: impl.Silver, {4, 0}: impl.Red, {11, 0}: impl.Blue,
		{9, 0}: impl.Red, {16, 0}: impl.Blue,
	} {
		if got, ok := impl.TinctureAt(a, c[0], c[1]); !ok || got != want {
			t.Errorf("TinctureAt(%q, %v) = %d, %v instead of %d", text, c, got, ok, want)
		}
	}
}

func TestTinctureAtFarPlaces(t *testing.T) {
	for _, a := range []impl.Arms{{Field: plainBlue}, plainArms(impl.OrdPale, impl.LineWavy, 3, 4)} {
		for _, far := range append(farPlaces(), farNumbers()...) {
			for n := range 24 {
				if _, ok := impl.TinctureAt(a, n, far); ok != inShield(n, far) {
					t.Errorf("TinctureAt(%v, %d, %d): %v", a, n, far, ok)
				}
				if _, ok := impl.TinctureAt(a, far, n); ok != inShield(far, n) {
					t.Errorf("TinctureAt(%v, %d, %d): %v", a, far, n, ok)
				}
			}
			if _, ok := impl.TinctureAt(a, far, far); ok != inShield(far, far) {
				t.Errorf("TinctureAt(%v, %d, %d): %v", a, far, far, ok)
			}
		}
	}
}

// TestLayersMakeUpShield checks the promise of the chapter with the functions of the chapter.
func TestLayersMakeUpShield(t *testing.T) {
	shield, _ := impl.AreaOf(impl.ShieldRegion())
	for _, a := range slices.Concat(someArms(), chargedArms(), fieldArms()) {
		layers, ok := impl.LayerCells(a)
		if n, fine := impl.LayerCount(a); !ok || !fine || len(layers) != n {
			t.Fatalf("LayerCells(%v) = %v, %v", a, layers, ok)
		}
		tinctures, ok := impl.TinctureCells(a)
		if !ok || len(tinctures) != 9 {
			t.Fatalf("TinctureCells(%v) = %v, %v", a, tinctures, ok)
		}
		sum, tinctured := 0, 0
		for _, cells := range layers {
			sum += cells
			if cells <= 0 {
				t.Errorf("LayerCells(%v) = %v", a, layers)
			}
		}
		for x, cells := range tinctures {
			tinctured += cells
			if used, _ := impl.ArmsTinctures(a); slices.Contains(used, x+1) != (cells > 0) {
				t.Errorf("TinctureCells(%v) = %v", a, tinctures)
			}
		}
		if sum != shield || tinctured != shield || shield != 430 {
			t.Errorf("%v: %v and %v of %d cells", a, layers, tinctures, shield)
		}
	}
}

// TestLayersCoverEachOther compares the layers with the regions and shapes of which they consist.
func TestLayersCoverEachOther(t *testing.T) {
	for _, a := range slices.Concat(fewArms(), chargedArms(), fieldArms()) {
		ordinary, _ := impl.ArmsOrdinary(a)
		ground, _ := impl.GroundOf(a)
		on, around, _ := impl.PlaceCharges(a)
		left := []int{0, 0, 0, 0}
		left[0], _ = impl.AreaOf(ground)
		left[1], _ = impl.AreaOf(ordinary)
		for _, b := range on {
			cells, _ := impl.ShapeCells(a.On.Kind, a.On.Attitude, b.Size)
			left[1] -= cells
			left[2] += cells
		}
		for _, b := range around {
			cells, _ := impl.ShapeCells(a.Around.Kind, a.Around.Attitude, b.Size)
			left[0] -= cells
			left[3] += cells
		}
		layers, ok := impl.LayerCells(a)
		isNumbers(t, a, layers, ok, slices.DeleteFunc(left, func(cells int) bool { return cells == 0 }))
	}
}

func TestLayerAndTinctureCellsExamples(t *testing.T) {
	for _, c := range []struct {
		text      string
		layers    []int
		tinctures []int
	}{
		{"blue", []int{430}, []int{0, 0, 0, 430, 0, 0, 0, 0, 0}},
		{"gold", []int{430}, []int{430, 0, 0, 0, 0, 0, 0, 0, 0}},
		{"vair", []int{430}, []int{0, 0, 0, 0, 0, 0, 0, 0, 430}},
		{"paly red and silver", []int{430}, []int{0, 217, 213, 0, 0, 0, 0, 0, 0}},
		{"blue, a chief gold", []int{270, 160}, []int{160, 0, 0, 270, 0, 0, 0, 0, 0}},
		{"blue, a rose red", []int{378, 52}, []int{0, 0, 52, 378, 0, 0, 0, 0, 0}},
		{"blue, six swords red", []int{280, 150}, []int{0, 0, 150, 280, 0, 0, 0, 0, 0}},
		{"blue, a chief gold charged with a lion rampant red", []int{270, 100, 60}, []int{100, 0, 60, 270, 0, 0, 0, 0, 0}},
		{"blue, a fess gold charged with five keys black", []int{270, 100, 60}, []int{100, 0, 0, 270, 60, 0, 0, 0, 0}},
		{"blue, a cross wavy gold between six roses silver", []int{144, 160, 126}, []int{160, 126, 0, 144, 0, 0, 0, 0, 0}},
		// Layers with the tincture of what they cover, and with that of another layer.
		{"blue, a bend blue", []int{301, 129}, []int{0, 0, 0, 430, 0, 0, 0, 0, 0}},
		{"blue, a chief gold charged with a rose gold", []int{270, 108, 52}, []int{160, 0, 0, 270, 0, 0, 0, 0, 0}},
		{"blue, a chief blue charged with a rose blue above a rose blue", []int{218, 108, 52, 52}, []int{0, 0, 0, 430, 0, 0, 0, 0, 0}},
		{"blue, a chief gold charged with a rose blue above a rose gold", []int{218, 108, 52, 52}, []int{160, 0, 0, 270, 0, 0, 0, 0, 0}},
	} {
		a := armsOf(t, c.text)
		cells, ok := impl.LayerCells(a)
		isNumbers(t, a, cells, ok, c.layers)
		cells, ok = impl.TinctureCells(a)
		isNumbers(t, a, cells, ok, c.tinctures)
	}
}

// checkDifference compares the difference between the drawings of two arms, in both orders, with
// what is wanted.
func checkDifference(t *testing.T, a, b impl.Arms, want int) {
	t.Helper()
	for _, pair := range [][2]impl.Arms{{a, b}, {b, a}} {
		if n, ok := impl.DrawingDifference(pair[0], pair[1]); !ok || n != want {
			t.Errorf("DrawingDifference(%v, %v) = %d, %v instead of %d", pair[0], pair[1], n, ok, want)
		}
	}
}

// TestDrawingDifference compares the drawings of arms with each other.
func TestDrawingDifference(t *testing.T) {
	places := placesOfCharges{}
	var list []impl.Arms
	for i, a := range slices.Concat(fewArms(), chargedArms(), fieldArms()) {
		if i%67 == 0 {
			list = append(list, a)
		}
	}
	for i, a := range list {
		first, _ := places.paint(a)
		checkDifference(t, a, a, 0)
		for _, b := range list[i+1:] {
			second, _ := places.paint(b)
			want := 0
			for _, c := range cellsOfShield() {
				if first[c[1]][c[0]] != second[c[1]][c[0]] {
					want++
				}
			}
			checkDifference(t, a, b, want)
		}
	}
}

// TestDifferenceOfOneTincture gives each layer of arms a tincture that they do not have.
func TestDifferenceOfOneTincture(t *testing.T) {
	for _, a := range fewArms() {
		cells, _ := impl.LayerCells(a)
		layer := 0
		change := func(exists bool, b impl.Arms) {
			if exists {
				layer++
				checkDifference(t, a, b, cells[layer])
			}
		}
		used, _ := impl.ArmsTinctures(a)
		other := 1
		for slices.Contains(used, other) {
			other++
		}
		b := a
		b.Tincture = other
		change(a.Ordinary != impl.OrdNone, b)
		b = a
		b.On.Tincture = other
		change(a.On.Count > 0, b)
		b = a
		b.Around.Tincture = other
		change(a.Around.Count > 0, b)
		if a.Field.Division == impl.DivNone {
			b = a
			b.Field.First = other
			checkDifference(t, a, b, cells[0])
		}
	}
}

func TestDrawingDifferenceExamples(t *testing.T) {
	for _, c := range []struct {
		first, second string
		want          int
	}{
		{"blue", "blue", 0}, {"blue", "red", 430}, {"blue", "blue, a chief gold", 160}, {"blue, a chief gold", "gold, a chief blue", 430},
		{"blue, a chief gold", "blue, a chief red", 160}, {"blue, a chief gold", "red, a chief gold", 270}, {"blue, a rose red", "blue", 52},
		{"per pale red and gold", "per pale gold and red", 430}, {"per pale red and gold", "red", 215}, {"per pale red and gold", "blue", 430},
		{"per pale red and gold", "per pale engrailed red and gold", 12}, {"per fess red and gold", "per fess red and blue", 190},
		// A shape that is the same in both attitudes, one that lies within another, and others.
		{"blue, a lion rampant gold", "blue, a lion passant gold", 0}, {"blue, a star gold", "blue, a rose gold", 4},
		{"blue, a fish swimming gold", "blue, a fish upright gold", 32}, {"blue, a fish swimming gold", "blue, a fish swimming red", 32},
		{"blue, an eagle displayed gold", "blue, an eagle rising gold", 48},
		// Different arms with the same drawing.
		{"blue", "blue, a bend blue", 0}, {"blue, a bend blue", "blue, six keys blue", 0}, {"blue, a rose blue", "blue, a cross wavy blue", 0},
		// Everything differs.
		{
			"red, a chief gold charged with a rose black above a rose silver",
			"blue, a chief green charged with a rose purple above a rose vair", 430,
		},
	} {
		checkDifference(t, armsOf(t, c.first), armsOf(t, c.second), c.want)
	}
}

func TestInvalidArmsAreNotDrawn(t *testing.T) {
	valid := plainArms(impl.OrdBend, impl.LineWavy, 2, 3)
	for i, a := range noArms() {
		if drawing, ok := impl.PaintArms(a); ok || len(drawing) != 0 {
			t.Errorf("PaintArms(%v) = %v, %v", a, drawing, ok)
		}
		for _, c := range []cell{{0, 0}, {9, 12}, {12, 23}, {0, 23}, {-1, 0}, {20, 24}, {math.MinInt, math.MaxInt}} {
			if x, ok := impl.TinctureAt(a, c[0], c[1]); ok || x != 0 {
				t.Errorf("TinctureAt(%v, %v) = %d, %v", a, c, x, ok)
			}
		}
		for _, call := range []func(impl.Arms) ([]int, bool){impl.LayerCells, impl.TinctureCells} {
			if cells, ok := call(a); ok || len(cells) != 0 {
				t.Errorf("%v: %v, %v", a, cells, ok)
			}
		}
		pairs := [][2]impl.Arms{{a, a}, {a, {}}}
		if i%9 == 0 {
			pairs = append(pairs, [2]impl.Arms{a, valid}, [2]impl.Arms{valid, a})
		}
		for _, pair := range pairs {
			if n, ok := impl.DrawingDifference(pair[0], pair[1]); ok || n != 0 {
				t.Errorf("DrawingDifference(%v, %v) = %d, %v", pair[0], pair[1], n, ok)
			}
		}
	}
}

// TestDrawingsAreNewMemory changes the rows of a drawing and what lies behind their ends.
func TestDrawingsAreNewMemory(t *testing.T) {
	places := placesOfCharges{}
	for _, a := range []impl.Arms{{Field: plainBlue}, plainArms(impl.OrdPale, impl.LineWavy, 4, 5)} {
		want, _ := places.paint(a)
		first, ok := impl.PaintArms(a)
		second, fine := impl.PaintArms(a)
		isDrawing(t, a, first, ok, want)
		for _, row := range first {
			_ = append(row, slices.Repeat([]int{77}, 480)...)
			_ = append(row[:len(row):cap(row)], 78)
		}
		isDrawing(t, a, first, ok, want)
		for y, row := range first {
			for x := range row {
				row[x] = 79
			}
			if y+1 < len(first) && !slices.Equal(first[y+1], want[y+1][:]) {
				t.Errorf("rows %d and %d share memory", y, y+1)
			}
		}
		first[0] = nil
		_ = append(first[:1], []int{80})
		isDrawing(t, a, second, fine, want)
		third, ok := impl.PaintArms(a)
		isDrawing(t, a, third, ok, want)
	}
}

// TestCountsAreNewMemory changes the numbers of cells and what lies behind their ends.
func TestCountsAreNewMemory(t *testing.T) {
	a := plainArms(impl.OrdPale, impl.LineWavy, 4, 5)
	for _, call := range []func(impl.Arms) ([]int, bool){impl.LayerCells, impl.TinctureCells} {
		first, _ := call(a)
		kept := slices.Clone(first)
		second, ok := call(a)
		for i := range first {
			first[i] = 77
		}
		_ = append(first[:1], 78, 79)
		isNumbers(t, a, second, ok, kept)
		third, ok := call(a)
		isNumbers(t, a, third, ok, kept)
	}
}
