package tests

import (
	"fmt"
	"math/rand/v2"
	"regexp"
	"strconv"
	"strings"

	"loop.example/g01317/impl"
)

// The desk of chapter 8 once more, in another way: words are told by patterns,
// texts by fmt, lines by a switch over what they look like, and journals by
// their last line first.

func numbersText(list []float32) string {
	if len(list) == 0 {
		return "none"
	}
	return strings.ReplaceAll(seen(list), " ", ",")
}

func integersText(list ...int64) string {
	return strings.ReplaceAll(strings.Trim(fmt.Sprint(list), "[]"), " ", ",")
}

func toldScheme(s impl.Scheme) string {
	return numbersText(s.Weights) + ";" + numbersText([]float32{s.Scale})
}

func toldPicture(p impl.Picture) string {
	return integersText(p.Wide, p.High) + ";" + numbersText(p.Lights)
}

func toldCoded(c impl.Coded) string { return integersText(c.Count, c.Top) + ";" + textOfBits(c.Bits) }

// deskSeen returns the texts of all parts, whether they are valid or not.
func deskSeen(d impl.Desk) string {
	return numbersText(d.List) + " " + toldScheme(d.Scheme) + " " + toldPicture(d.Picture) + " " + toldCoded(d.Coded)
}

func isToldDesk(d impl.Desk) bool {
	return impl.IsList(d.List) && impl.ValidScheme(d.Scheme) && impl.ValidPicture(d.Picture) && impl.ValidCoded(d.Coded)
}

var (
	integerPattern = regexp.MustCompile(`\A(0|-?[1-9][0-9]{0,14}|-?1000000000000000)\z`)
	numberPattern  = regexp.MustCompile(`\A[0-9a-f]{8}\z`)
	bitsPattern    = regexp.MustCompile(`\A[01]*\z`)
	partsPattern   = regexp.MustCompile(`\A([^;]*);([^;]*)\z`)
)

func toldInteger(word string) (int64, bool) {
	n, _ := strconv.ParseInt(word, 10, 64)
	return n, integerPattern.MatchString(word)
}

func toldNumber(word string) (float32, bool) {
	n, _ := strconv.ParseUint(word, 16, 32)
	x := number(uint32(n))
	return x, numberPattern.MatchString(word) && bitsOf(x) == uint32(n)
}

func toldReadNumbers(text string) ([]float32, bool) {
	if text == "none" {
		return nil, true
	}
	all := []float32{}
	for _, word := range strings.Split(text, ",") {
		x, ok := toldNumber(word)
		if !ok || len(all) == 256 {
			return nil, false
		}
		all = append(all, x)
	}
	return all, true
}

func toldParts(text string) (string, string, bool) {
	parts := partsPattern.FindStringSubmatch(text)
	if parts == nil {
		return "", "", false
	}
	return parts[1], parts[2], true
}

func toldReadScheme(text string) (impl.Scheme, bool) {
	first, second, ok := toldParts(text)
	weights, one := toldReadNumbers(first)
	scale, two := toldNumber(second)
	s := impl.Scheme{Weights: weights, Scale: scale}
	return s, ok && one && two && impl.ValidScheme(s)
}

func toldTwoIntegers(text string) (int64, int64, bool) {
	first, second, _ := strings.Cut(text, ",")
	n, one := toldInteger(first)
	m, two := toldInteger(second)
	return n, m, one && two
}

func toldReadPicture(text string) (impl.Picture, bool) {
	first, second, ok := toldParts(text)
	wide, high, one := toldTwoIntegers(first)
	lights, two := toldReadNumbers(second)
	p := impl.Picture{Wide: wide, High: high, Lights: lights}
	return p, ok && one && two && impl.ValidPicture(p)
}

func toldReadCoded(text string) (impl.Coded, bool) {
	first, second, ok := toldParts(text)
	count, top, one := toldTwoIntegers(first)
	c := codedOf(count, top, second)
	return c, ok && one && bitsPattern.MatchString(second) && impl.ValidCoded(c)
}

// toldOfPart tells lines of parts, and whether they succeed.
func toldOfPart(d *impl.Desk, key, word string) (output string, ok bool) {
	switch key {
	case "list _":
		d.List, ok = toldReadNumbers(word)
	case "scheme _":
		d.Scheme, ok = toldReadScheme(word)
	case "picture _":
		d.Picture, ok = toldReadPicture(word)
	case "coded _":
		d.Coded, ok = toldReadCoded(word)
	case "list":
		return numbersText(d.List), true
	case "scheme":
		return toldScheme(d.Scheme), true
	case "picture":
		return toldPicture(d.Picture), true
	case "coded":
		return toldCoded(d.Coded), true
	default:
		return "what", true
	}
	return "ok", ok
}

// toldOfList tells lines of lists and codes; n, k and x are what the words tell.
func toldOfList(d *impl.Desk, key string, n, k int64, x float32) (output string, ok bool) {
	var integers, counts []int64
	bands, lifted := impl.LiftDeep(d.Scheme, d.List, n)
	output = "ok"
	switch key {
	case "lift _":
		flat, _ := impl.FlatBands(bands)
		return numbersText(flat), lifted
	case "sizes _":
		integers, ok = impl.BandSizes(int64(len(d.List)), n)
		output = integersText(integers...)
	case "quiet _ _":
		left, count, _ := impl.SmallOut(bands, x)
		d.List, ok = impl.DropDeep(d.Scheme, left)
		output = fmt.Sprint(count)
	case "coarse _ _":
		d.List, ok = impl.CoarseOf(d.Scheme, d.List, n, k)
	case "grow":
		d.List, ok = impl.GrowList(d.Scheme, d.List)
	case "energy":
		energy, found := impl.EnergyOf(d.List)
		return numbersText([]float32{energy}), found
	case "code _":
		integers, ok = impl.ScaleList(d.List, x)
		d.Coded, _ = impl.CodeList(integers)
		output = fmt.Sprint(len(d.Coded.Bits))
	case "cut _":
		d.Coded, ok = impl.CutCoded(d.Coded, n)
	case "tell _":
		integers, _ = impl.ListFrom(d.Coded)
		d.List, ok = impl.ListOfScale(integers, x, 0.5)
	case "rates _ _":
		counts, _, ok = impl.RateTable(d.Scheme, d.List, n, x)
		output = integersText(counts...)
	}
	return output, ok
}

// toldOfPicture tells lines of pictures.
func toldOfPicture(d *impl.Desk, key, digits string, n int64, x float32) (output string, ok bool) {
	lifted, _ := impl.LiftPicture(d.Scheme, d.Picture, n)
	output = "ok"
	switch key {
	case "bands _":
		energies, found := impl.EnergiesIn(lifted, n)
		return numbersText(energies), found
	case "thumb _":
		d.Picture, ok = impl.ThumbOf(d.Scheme, d.Picture, n)
	case "soft _ _":
		soft, _ := impl.SoftPicture(lifted, n, x)
		d.Picture, ok = impl.DropPicture(d.Scheme, soft, n)
	case "mark _ _":
		d.Picture, ok = impl.MarkPicture(d.Scheme, d.Picture, digits, x)
	case "marks _ _":
		output, ok = impl.ReadMarks(d.Scheme, d.Picture, n, x)
	}
	return output, ok
}

// integerKeys tell which word of a line has to be an integer, and numberKeys the
// same of numbers.
func integerKeys() map[string]int {
	return map[string]int{"lift _": 1, "sizes _": 1, "quiet _ _": 1, "coarse _ _": 2, "cut _": 1, "rates _ _": 1, "bands _": 1, "thumb _": 1, "soft _ _": 1, "marks _ _": 1}
}

func numberKeys() map[string]int {
	return map[string]int{"quiet _ _": 2, "code _": 1, "tell _": 1, "rates _ _": 2, "soft _ _": 2, "mark _ _": 2, "marks _ _": 2}
}

func keyOf(words []string) string { return words[0] + strings.Repeat(" _", len(words)-1) }

// toldCommand returns the desk after a line, and the output.
func toldCommand(d impl.Desk, line string) (impl.Desk, string) {
	words := strings.Split(line, " ")
	key, ok, digits := keyOf(words), true, ""
	words = append(words, "", "")
	if key == "mark _ _" {
		digits, ok = words[1], bitsPattern.MatchString(words[1])
	}
	var n, k int64
	var x float32
	for word := 1; word <= integerKeys()[key]; word++ {
		m, good := toldInteger(words[word])
		if word == 1 {
			n = m
		} else {
			k = m
		}
		ok = ok && good
	}
	if word := numberKeys()[key]; word > 0 {
		y, good := toldNumber(words[word])
		x, ok = y, ok && good
	}
	after, output, done := d, "", false
	switch key {
	case "lift _", "sizes _", "quiet _ _", "coarse _ _", "grow", "energy", "code _", "cut _", "tell _", "rates _ _":
		output, done = toldOfList(&after, key, n, k, x)
	case "bands _", "thumb _", "soft _ _", "mark _ _", "marks _ _":
		output, done = toldOfPicture(&after, key, digits, n, x)
	default:
		output, done = toldOfPart(&after, key, words[1])
	}
	if !ok || !done || !isToldDesk(after) {
		return d, "no"
	}
	return after, output
}

// toldScript returns the desk after lines, and the outputs.
func toldScript(d impl.Desk, lines []string) (impl.Desk, []string) {
	outputs := []string{}
	for _, line := range lines {
		after, output := toldCommand(d, line)
		d, outputs = after, append(outputs, output)
	}
	return d, outputs
}

// toldJournal returns the journal of lines, and its last check number.
func toldJournal(lines ...string) (string, int) {
	if len(lines) == 0 {
		return "", 0
	}
	last := len(lines) - 1
	before, check := toldJournal(lines[:last]...)
	for _, b := range []byte(lines[last]) {
		check = (853*check + int(b) + 139) % 65003
	}
	return fmt.Sprintf("%s%d %s\n", before, check, lines[last]), check
}

// toldRecovered returns the most lines whose journal a text begins with, by
// trying fewer and fewer of those that it could tell.
func toldRecovered(text string) ([]string, int) {
	all := []string{}
	for _, line := range strings.Split(text, "\n") {
		_, behind, _ := strings.Cut(line, " ")
		all = append(all, behind)
	}
	for {
		if journal, _ := toldJournal(all...); strings.HasPrefix(text, journal) {
			return all, len(journal)
		}
		all = all[:len(all)-1]
	}
}

// anyDesk has a valid list, scheme, picture and code.
func anyDesk(r *rand.Rand) impl.Desk {
	numbers := []func(*rand.Rand, int) []float32{lightNumbers, smallNumbers, lightNumbers, anyNumbers}[r.IntN(4)]
	s := []impl.Scheme{impl.LinesScheme(), impl.NineScheme(), anyScheme(r)}[r.IntN(3)]
	integers := integersUpTo(r, 1+r.IntN(40), 1+r.Int64N(200))
	c, _ := impl.CodeList(integers)
	if r.IntN(4) == 0 {
		c.Bits = c.Bits[:r.IntN(len(c.Bits)+1)]
	}
	if r.IntN(8) == 0 {
		c.Bits = append(c.Bits, true)
	}
	return impl.Desk{List: numbers(r, 1+r.IntN(128)), Scheme: s, Picture: anyPicture(r, 1+r.Int64N(16), 1+r.Int64N(16), numbers), Coded: c}
}

// lineForms are the forms of lines, with the names of what their words have to be.
func lineForms() []string {
	return []string{
		"list TEXT", "scheme TEXT", "picture TEXT", "coded TEXT", "list", "scheme", "picture", "coded", "lift N", "sizes N", "quiet N X", "coarse N K", "grow", "energy", "code X", "cut N", "tell X",
		"rates N X", "bands N", "thumb N", "soft N X", "mark BITS X", "marks N X",
	}
}

// anyWord returns a word that is mostly what a word with some name has to be.
func anyWord(r *rand.Rand, name, form string) string {
	if r.IntN(12) == 0 {
		odd := append(wrongTexts(), "0", "-1", "none", "01", "+1", "3f800000", "7f800000", "00000000,00000000", "1,1;00000000", "10101010101010101")
		return strings.ReplaceAll(odd[r.IntN(len(odd))], " ", "_")
	}
	switch name {
	case "N", "K":
		return fmt.Sprint(r.IntN(8))
	case "X":
		return numbersText([]float32{[]float32{0.25, 1, 2, 0, 0.015625, 30, -1, number(r.Uint32() % infinityBits)}[r.IntN(8)]})
	case "BITS":
		return textOfBits(bitsOfText(toldDigits(r.Int64N(1<<10), 1+r.IntN(9))))
	}
	d := anyDesk(r)
	switch form {
	case "list TEXT":
		return numbersText(d.List)
	case "scheme TEXT":
		return toldScheme(d.Scheme)
	case "picture TEXT":
		return toldPicture(d.Picture)
	}
	return toldCoded(d.Coded)
}

// anyLine returns a line of any form, and at times one that has none.
func anyLine(r *rand.Rand) string {
	form := lineForms()[r.IntN(len(lineForms()))]
	words := strings.Split(form, " ")
	for k, name := range words[1:] {
		words[1+k] = anyWord(r, name, form)
	}
	line := strings.Join(words, " ")
	switch r.IntN(40) {
	case 0:
		return line + " "
	case 1:
		return " " + line
	case 2:
		return strings.ReplaceAll(line, " ", "  ")
	case 3:
		return line[:len(line)-1]
	case 4:
		return strings.ToUpper(line)
	}
	return strings.ReplaceAll(line, "\n", "_")
}
