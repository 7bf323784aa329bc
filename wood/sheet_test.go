package wood_test

import (
	"math/rand"
	"slices"
	"strings"
	"testing"

	"greenhew/api"
	"greenhew/wood"
)

func TestSheetOfTheChapter(t *testing.T) {
	m := api.WoodMap{Width: 4, Height: 3, Cells: []api.WoodCell{
		{Kind: api.CellField}, {Kind: api.CellBank, Soft: 2}, {Kind: api.CellRide, Soft: 1}, {Kind: api.CellWater},
		{Kind: api.CellField}, {Kind: api.CellWood, Comp: 1, Soft: 3, Stools: 4}, {Kind: api.CellWood, Comp: 1, Soft: 5}, {Kind: api.CellWood, Comp: 2, Stools: 2},
		{Kind: api.CellField}, {Kind: api.CellWood, Comp: 1, Soft: 3, Stools: 1}, {Kind: api.CellRide, Soft: 1}, {Kind: api.CellWood, Comp: 2, Stools: 6},
	}, Standards: []api.Standard{{At: 5, Crown: 1, Dense: 60}}}
	if sheet, err := wood.Print(m); err != api.OK || sheet != example {
		t.Errorf("%q %d", sheet, err)
	}
	if got, err := wood.Read(example); err != api.OK || !sameMap(got, m) {
		t.Error(got, err)
	}
}

func TestSheetsAreReadAsTheirMaps(t *testing.T) {
	r := rand.New(rand.NewSource(12))
	for i := range 300 {
		m := randomMap(r, 1+r.Intn(8), 1+r.Intn(8))
		if i == 0 {
			m = randomMap(r, 40, 40)
		}
		sheet, err := wood.Print(m)
		got, f := wood.Read(sheet)
		if err != api.OK || f != api.OK || !sameMap(got, m) {
			t.Fatal(sheet, err, got, f)
		}
	}
}

func TestStandardsKeepTheirOrder(t *testing.T) {
	sheet := "wood 3 1\nr0 r0 r0\nstandard 2 0 1\nstandard 0 8 100\nstandard 1 3 7\n"
	m := read(t, sheet)
	if !slices.Equal(m.Standards, []api.Standard{{At: 2, Dense: 1}, {At: 0, Crown: 8, Dense: 100}, {At: 1, Crown: 3, Dense: 7}}) || show(m) != sheet {
		t.Error(m)
	}
}

func TestReadRefusesTexts(t *testing.T) {
	for _, sheet := range []string{
		"", "\n", " ", "wood", "wood\n", "wood 1\nr0\n", "wood 1 1 1\nr0\n", "wood 1 1", "wood 1 1\n", "wood 1 1\n\n", "wood 1 1\nr0",
		"Wood 1 1\nr0\n", "woods 1 1\nr0\n", " wood 1 1\nr0\n", "wood  1 1\nr0\n", "wood 1 1 \nr0\n", "wood\t1 1\nr0\n", "wood 1 1\r\nr0\r\n",
		"wood 0 1\n", "wood 1 0\n", "wood 41 1\nr0\n", "wood 1 41\nr0\n", "wood -1 1\nr0\n", "wood +1 1\nr0\n", "wood 01 1\nr0\n", "wood 1 1.\nr0\n", "wood 00001 1\nr0\n", "wood x 1\nr0\n",
		"wood 1 1\nr0\n\n", "wood 1 1\nr0 r0\n", "wood 2 1\nr0\n", "wood 2 1\nr0  r0\n", "wood 2 1\nr0 r0 \n", "wood 2 1\n r0 r0\n", "wood 1 2\nr0\n", "wood 1 1\nr0\nr0\n", "\nwood 1 1\nr0\n",
		"wood 1 1\nx0\n", "wood 1 1\nr\n", "wood 1 1\nb\n", "wood 1 1\nf\n", "wood 1 1\nR0\n", "wood 1 1\nr00\n", "wood 1 1\nr01\n", "wood 1 1\nr-1\n", "wood 1 1\nr+1\n", "wood 1 1\nr10000\n", "wood 1 1\nr1x\n", "wood 1 1\nw0\n", "wood 1 1\nww\n",
		"wood 1 1\n1\n", "wood 1 1\n1:2\n", "wood 1 1\n1:2:3:4\n", "wood 1 1\n:2:3\n", "wood 1 1\n1::3\n", "wood 1 1\n1:2:\n", "wood 1 1\n01:2:3\n", "wood 1 1\n1:2:-3\n", "wood 1 1\n10000:2:3\n", "wood 1 1\n1;2;3\n", "wood 1 1\n\xff:2:3\n", "wood 1 1\n１:2:3\n",
		"wood 1 1\nr0\nstandard\n", "wood 1 1\nr0\nstandard \n", "wood 1 1\nr0\nstandard 0 1\n", "wood 1 1\nr0\nstandard 0 1 1 1\n", "wood 1 1\nr0\nstandard 0 1 01\n", "wood 1 1\nr0\nstandard 0 1 10000\n", "wood 1 1\nr0\nstandard 0 -1 1\n", "wood 1 1\nr0\nstandard 0  1 1\n",
		"wood 1 1\nr0\nstandard 0 1 1", "wood 1 1\nr0\nstandard 0 1 1\n\n", "wood 1 1\nr0\nstandards 0 1 1\n", "wood 1 1\nstandard 0 1 1\nr0\n", "wood 1 1\nr0\nstandard 0 1 1 \n", "wood 1 1\nr0\n\nstandard 0 1 1\n",
		"wood 2 1\n1:0:0 2:0:x\n", "wood 1 1\nr10\nstandard\n",
	} {
		if m, err := wood.Read(sheet); err != api.ErrText || !isZero(m) {
			t.Errorf("%q %v %d", sheet, m, err)
		}
	}
}

func isZero(m api.WoodMap) bool {
	return m.Width == 0 && m.Height == 0 && len(m.Cells) == 0 && len(m.Standards) == 0
}

func TestReadRefusesWhatIsNoMap(t *testing.T) {
	for _, sheet := range []string{
		"wood 1 1\nr10\n", "wood 1 1\nr9999\n", "wood 1 1\n0:0:0\n", "wood 1 1\n2:0:0\n", "wood 1 1\n1:10:0\n", "wood 1 1\n1:0:21\n", "wood 1 1\n9999:9999:9999\n",
		"wood 3 1\n1:0:0 r0 1:0:0\n", "wood 1 1\nw\nstandard 0 1 1\n", "wood 1 1\nr0\nstandard 1 1 1\n", "wood 1 1\nr0\nstandard 0 9 1\n", "wood 1 1\nr0\nstandard 0 0 0\n", "wood 1 1\nr0\nstandard 0 0 101\n",
		"wood 1 1\nr0\nstandard 0 1 1\nstandard 0 1 1\n", "wood 1 1\nr0\nstandard 9999 1 1\n",
		"wood 1 1\nr0\n" + strings.Repeat("standard 0 1 1\n", 61),
	} {
		if m, err := wood.Read(sheet); err != api.ErrArg || !isZero(m) {
			t.Errorf("%q %v %d", sheet, m, err)
		}
	}
}

func TestReadRefusesLongSheets(t *testing.T) {
	// A sheet of so many bytes is no map any more, but it is a sheet: the lines of standards have 15 and 16 bytes.
	full := "wood 1 1\nr0\n" + strings.Repeat("standard 0 1 1\n", 3999-12) + strings.Repeat("standard 0 10 1\n", 3)
	full += strings.Repeat("standard 0 10 10\n", (api.WoodSheet-len(full))/17)
	for len(full) < api.WoodSheet {
		full = strings.Replace(full, "standard 0 1 1\n", "standard 0 1 10\n", 1)
	}
	if _, err := wood.Read(full); len(full) != api.WoodSheet || err != api.ErrArg {
		t.Error(len(full), err)
	}
	for _, sheet := range []string{full + "\n", full + "standard 0 1 1\n", strings.Repeat("x", api.WoodSheet+1), strings.Repeat("\n", api.WoodSheet*2)} {
		if m, err := wood.Read(sheet); err != api.ErrLong || !isZero(m) {
			t.Error(len(sheet), err)
		}
	}
	if _, err := wood.Read(strings.Repeat("x", api.WoodSheet)); err != api.ErrText {
		t.Error(err)
	}
}

func TestWhatIsReadIsPrintedAsTheSheet(t *testing.T) {
	r := rand.New(rand.NewSource(13))
	letters := "0123456789 :\nrbfwstandard"
	read := 0
	for range 20000 {
		text := []byte(example)
		for range 1 + r.Intn(2) {
			text[r.Intn(len(text))] = letters[r.Intn(len(letters))]
		}
		m, err := wood.Read(string(text))
		if err != api.OK {
			continue
		}
		read++
		if s, err := wood.Print(m); err != api.OK || s != string(text) {
			t.Fatalf("%q %q %d", text, s, err)
		}
	}
	if read < 100 {
		t.Error("few of the sheets were read:", read)
	}
}
