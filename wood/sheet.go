package wood

import (
	"strconv"
	"strings"

	"greenhew/api"
)

// Print returns the sheet of a map.
func Print(m api.WoodMap) (string, api.Errno) {
	g, ok := survey(m)
	if !ok {
		return "", api.ErrArg
	}
	var w sheetWriter
	w.words("wood", g.Width, g.Height)
	w.lineFeed()
	kinds := w.kinds()
	for i, c := range g.Cells {
		if i%g.Width > 0 {
			w.text.WriteByte(' ')
		}
		kinds[c.Kind](c)
		if (i+1)%g.Width == 0 {
			w.lineFeed()
		}
	}
	for _, s := range g.Standards {
		w.words("standard", s.At, s.Crown, s.Dense)
		w.lineFeed()
	}
	return w.text.String(), api.OK
}

// Read returns the map of a sheet.
func Read(sheet string) (api.WoodMap, api.Errno) {
	if len(sheet) > api.WoodSheet {
		return api.WoodMap{}, api.ErrLong
	}
	m, ok := readSheet(sheet)
	if !ok {
		return api.WoodMap{}, api.ErrText
	}
	if Check(m) != api.OK {
		return api.WoodMap{}, api.ErrArg
	}
	return m, api.OK
}

// sheetWriter writes a sheet.
type sheetWriter struct {
	text strings.Builder
}

// kinds returns what writes a cell, for each kind of cells.
func (w *sheetWriter) kinds() [api.CellField + 1]func(api.WoodCell) {
	return [...]func(api.WoodCell){
		api.CellWood:  w.wood,
		api.CellRide:  w.ride,
		api.CellBank:  w.bank,
		api.CellWater: w.water,
		api.CellField: w.field,
	}
}

func (w *sheetWriter) wood(c api.WoodCell) {
	w.number(c.Comp)
	w.text.WriteByte(':')
	w.number(c.Soft)
	w.text.WriteByte(':')
	w.number(c.Stools)
}

func (w *sheetWriter) ride(c api.WoodCell) { w.letter('r', c) }

func (w *sheetWriter) bank(c api.WoodCell) { w.letter('b', c) }

func (w *sheetWriter) water(api.WoodCell) { w.text.WriteByte('w') }

func (w *sheetWriter) field(c api.WoodCell) { w.letter('f', c) }

func (w *sheetWriter) letter(letter byte, c api.WoodCell) {
	w.text.WriteByte(letter)
	w.number(c.Soft)
}

func (w *sheetWriter) number(n int) { w.text.WriteString(strconv.Itoa(n)) }

// words writes a word and numbers, separated by spaces.
func (w *sheetWriter) words(first string, numbers ...int) {
	w.text.WriteString(first)
	for _, n := range numbers {
		w.text.WriteByte(' ')
		w.number(n)
	}
}

func (w *sheetWriter) lineFeed() { w.text.WriteByte('\n') }

// readSheet returns what a sheet says, which need not be a map as defined.
func readSheet(sheet string) (api.WoodMap, bool) {
	lines := strings.Split(sheet, "\n")
	end := len(lines) - 1
	size, ok := readNumbers(lines[0], "wood", 2)
	if !ok || lines[end] != "" || !within(size[0], 1, api.WoodSide) || !within(size[1], 1, api.WoodSide) {
		return api.WoodMap{}, false
	}
	m := api.WoodMap{Width: size[0], Height: size[1]}
	lines = lines[1:end]
	if len(lines) < m.Height {
		return api.WoodMap{}, false
	}
	for _, line := range lines[:m.Height] {
		words := strings.Split(line, " ")
		if len(words) != m.Width {
			return api.WoodMap{}, false
		}
		for _, word := range words {
			c, ok := readCell(word)
			if !ok {
				return api.WoodMap{}, false
			}
			m.Cells = append(m.Cells, c)
		}
	}
	for _, line := range lines[m.Height:] {
		n, ok := readNumbers(line, "standard", 3)
		if !ok {
			return api.WoodMap{}, false
		}
		m.Standards = append(m.Standards, api.Standard{At: n[0], Crown: n[1], Dense: n[2]})
	}
	return m, true
}

// readNumbers reads a line of a word and so many numbers.
func readNumbers(line, first string, many int) ([]int, bool) {
	rest, ok := strings.CutPrefix(line, first+" ")
	if !ok {
		return nil, false
	}
	return readList(rest, " ", many)
}

// readList reads so many numbers that are separated by a separator.
func readList(text, separator string, many int) ([]int, bool) {
	words := strings.Split(text, separator)
	if len(words) != many {
		return nil, false
	}
	var numbers []int
	for _, word := range words {
		n, ok := readNumber(word)
		if !ok {
			return nil, false
		}
		numbers = append(numbers, n)
	}
	return numbers, true
}

// readNumber reads a number of at most 4 digits.
func readNumber(word string) (int, bool) {
	if len(word) == 0 || len(word) > 4 || len(word) > 1 && word[0] == '0' {
		return 0, false
	}
	n := 0
	for i := range len(word) {
		if word[i] < '0' || word[i] > '9' {
			return 0, false
		}
		n = 10*n + int(word[i]-'0')
	}
	return n, true
}

func readCell(word string) (api.WoodCell, bool) {
	if word == "w" {
		return api.WoodCell{Kind: api.CellWater}, true
	}
	if kind := kindOf(word); kind != 0 {
		soft, ok := readNumber(word[1:])
		return api.WoodCell{Kind: kind, Soft: soft}, ok
	}
	n, ok := readList(word, ":", 3)
	if !ok {
		return api.WoodCell{}, false
	}
	return api.WoodCell{Kind: api.CellWood, Comp: n[0], Soft: n[1], Stools: n[2]}, true
}

// kindOf returns the kind of cells that the first letter of a word tells, or 0.
func kindOf(word string) api.CellKind {
	if word == "" {
		return 0
	}
	switch word[0] {
	case 'r':
		return api.CellRide
	case 'b':
		return api.CellBank
	case 'f':
		return api.CellField
	}
	return 0
}
