package tests

import (
	"fmt"
	"math/rand/v2"
	"strings"
	"testing"

	"loop.example/g01317/impl"
)

// oddDesks are desks with parts of all kinds, valid ones and others.
func oddDesks() []impl.Desk {
	all := append(desksAtLimits(), wrongDesks()...)
	for k, x := range oddNumbersAlone() {
		schemes, pictures, codes := oddSchemes(), oddPictures(), oddCodes()
		all = append(all, impl.Desk{List: x, Scheme: schemes[k%len(schemes)], Picture: pictures[k%len(pictures)], Coded: codes[k%len(codes)]})
		d := impl.NewDesk()
		d.List, d.Picture = x, pictures[(3*k)%len(pictures)]
		all = append(all, d)
	}
	for _, x := range oddLists() {
		d := impl.NewDesk()
		d.List = x
		all = append(all, d)
	}
	for _, s := range oddSchemes() {
		d := impl.NewDesk()
		d.Scheme = s
		all = append(all, d)
	}
	for _, c := range oddCodes() {
		d := impl.NewDesk()
		d.Coded = c
		all = append(all, d)
	}
	return all
}

// oddForms are lines of all forms, with words of all kinds.
func oddForms() []string {
	all := append(oddTexts(), "", " ", "\n", "grow ", " grow", "list  x")
	words := map[string][]string{
		"N": {"1", "4", "6", "7", "-1", "x"}, "K": {"0", "1", "1000000000000000", ""}, "X": {"3f800000", "00000000", "7f7fffff", "00000001", "7f800000"}, "BITS": {"1", "0110011001100110", "", "2"},
		"TEXT": {"3f800000", "7f7fffff,ff7fffff", "3f800000;3f800000", "7f7fffff,ff7fffff;00000001", "2,1;3f800000,7f7fffff", "1,0;", "2,9;1111", "none", ";", "x", strings.Repeat("3f800000,", 127) + "3f800000"},
	}
	for _, form := range lineForms() {
		names := strings.Split(form, " ")
		lines := []string{names[0]}
		for _, name := range names[1:] {
			longer := []string{}
			for _, line := range lines {
				for _, word := range words[name] {
					longer = append(longer, line+" "+word)
				}
			}
			lines = longer
		}
		all = append(all, lines...)
	}
	return all
}

func TestPromise1EveryLineOfDesksReturns(t *testing.T) {
	forms := oddForms()
	for k, d := range oddDesks() {
		callTwice(t, fmt.Sprint("a function of the desk ", k), func() string {
			one, first := impl.SchemeText(d.Scheme)
			two, second := impl.PictureText(d.Picture)
			three, third := impl.CodedText(d.Coded)
			end, outputs, fourth := impl.RunDesk(d, "")
			return seen(impl.ValidDesk(d), impl.SameDesk(d, d), impl.SameDesk(d, impl.NewDesk()), one, first, two, second, three, third, deskSeen(end), outputs, fourth)
		})
		for at, line := range forms {
			if k > 4 && (at+k)%7 != 0 {
				continue
			}
			callTwice(t, fmt.Sprintf("the line %.30q at the desk %d", line, k), func() string {
				after, output, one := impl.DeskCommand(d, line)
				end, outputs, two := impl.RunDesk(d, line+"\nlist\n"+line+"\n")
				journal, three := impl.JournalOf([]string{line, "list", line})
				last, count, four := impl.RunJournal(d, journal)
				if !impl.ValidDesk(d) && (one || two || four) {
					t.Error("a desk that is not valid takes a line")
				}
				return seen(deskSeen(after), output, one, deskSeen(end), outputs, two, journal, three, deskSeen(last), count, four)
			})
		}
	}
}

func TestPromise1EveryTextOfDesksReturns(t *testing.T) {
	texts := append(oddTexts(), oddForms()...)
	for _, s := range []string{";", "\n", "0 \n", ",", "0", "1", "\x00", "\xff", "x", " ", "236 a\n", "no\n", "what\n", "list\n", "1,1;", "3f800000;"} {
		texts = append(texts, strings.Repeat(s, 16000/len(s)), strings.Repeat(s, 16000/len(s)+1), strings.Repeat(s, 100000/len(s)))
	}
	for _, s := range texts {
		callTwice(t, fmt.Sprintf("a function of the text %.30q", s), func() string {
			scheme, one := impl.ReadScheme(s)
			picture, two := impl.ReadPicture(s)
			coded, three := impl.ReadCoded(s)
			bad, good, four := impl.CountOutputs(s)
			lines, long, five := impl.RecoverJournal(s)
			d, count, six := impl.RunJournal(impl.NewDesk(), s)
			end, outputs, seven := impl.RunDesk(impl.NewDesk(), s)
			journal, eight := impl.JournalOf(strings.SplitAfter(s, " "))
			return seen(toldScheme(scheme), one, pictureSeen(picture), two, codedSeen(coded), three, bad, good, four, fmt.Sprintf("%q", lines), long, five, deskSeen(d), count, six, deskSeen(end), outputs, seven, journal, eight)
		})
	}
	for _, lines := range [][]string{nil, {}, {""}, texts, list(16000, ""), list(16000, "\n")} {
		callTwice(t, fmt.Sprint("JournalOf of ", len(lines)), func() string {
			journal, ok := impl.JournalOf(lines)
			return seen(journal, ok)
		})
	}
}

// Calls at the same time do not disturb each other.
func TestPromise1DesksAtTheSameTime(t *testing.T) {
	r := rand.New(rand.NewPCG(71, 8))
	d, lines := anyDesk(r), []string{}
	for range 60 {
		if line := anyLine(r); len(line) < 150 {
			lines = append(lines, line)
		}
	}
	script, journal := strings.Join(append(lines, ""), "\n"), ""
	journal, _ = toldJournal(lines...)
	call := func() string {
		end, outputs, one := impl.RunDesk(d, script)
		last, count, two := impl.RunJournal(d, journal)
		again, three := impl.JournalOf(lines)
		back, long, four := impl.RecoverJournal(journal)
		bad, good, five := impl.CountOutputs(outputs)
		none, six := impl.ReadScheme("3f800000;")
		return seen(deskSeen(end), outputs, one, deskSeen(last), count, two, again, three, back, long, four, bad, good, five, toldScheme(none), six)
	}
	want, calls := call(), make(chan string)
	for range 16 {
		go func() { calls <- call() }()
	}
	for range 16 {
		if got := <-calls; got != want {
			t.Error("a desk beside others: ", got, ", want ", want)
		}
	}
}

// roomyDesk is a new desk whose lists have unused capacity behind them.
func roomyDesk() impl.Desk {
	x := append(list(3, float32(7)), 9)[:3]
	copy(x, []float32{1, 3, 2})
	weights, lights := list(2, float32(0.25)), list(8, float32(4))
	weights[0], lights[1] = -0.5, 0
	return impl.Desk{List: x, Scheme: impl.Scheme{Weights: weights, Scale: 1}, Picture: pictureOf(4, 2, lights...), Coded: codedOf(2, 2, "100111")}
}

// wholeDesk returns all of the lists of a desk, with their unused capacity.
func wholeDesk(d impl.Desk) string {
	return seen(whole(d.List), whole(d.Scheme.Weights), d.Scheme.Scale, d.Picture.Wide, d.Picture.High, whole(d.Picture.Lights), d.Coded.Count, d.Coded.Top, whole(d.Coded.Bits))
}

func TestPromise1DesksAreNotModified(t *testing.T) {
	d := roomyDesk()
	d.Picture.Lights = append(make([]float32, 0, 20), d.Picture.Lights...)
	lines := append(make([]string, 0, 40), oddForms()[:30]...)
	before, linesBefore := wholeDesk(d), fmt.Sprint(whole(lines))
	impl.ValidDesk(d)
	impl.SameDesk(d, d)
	impl.SchemeText(d.Scheme)
	impl.PictureText(d.Picture)
	impl.CodedText(d.Coded)
	impl.JournalOf(lines)
	for _, line := range oddForms() {
		impl.DeskCommand(d, line)
		impl.RunDesk(d, line+"\n"+line+"\n")
		journal, _ := impl.JournalOf([]string{line, line})
		impl.RunJournal(d, journal)
		if wholeDesk(d) != before || fmt.Sprint(whole(lines)) != linesBefore {
			t.Fatalf("arguments have been modified by the line %.60q", line)
		}
	}
}

// checkDesksApart checks that no two lists of some desks share memory.
func checkDesksApart(t *testing.T, what string, desks ...impl.Desk) {
	t.Helper()
	lists, bits := [][]float32{}, [][]bool{}
	for _, d := range desks {
		lists = append(lists, d.List, d.Scheme.Weights, d.Picture.Lights)
		bits = append(bits, d.Coded.Bits)
	}
	checkApart(t, what, lists...)
	checkBitsApart(t, what, bits...)
}

func TestPromise1DesksAreNew(t *testing.T) {
	for _, line := range append(oddForms(), "list", "grow", "what", "list none", "coded 2,2;100111") {
		d := roomyDesk()
		journal, _ := toldJournal(strings.ReplaceAll(line, "\n", "_"))
		one, _, _ := impl.DeskCommand(d, line)
		two, _, _ := impl.DeskCommand(d, line)
		three, _, _ := impl.RunDesk(d, strings.ReplaceAll(line, "\n", "_")[:min(len(line), 15000)]+"\n")
		four, _, _ := impl.RunJournal(d, journal[:min(len(journal), 16000)])
		five, _, _ := impl.RunDesk(d, "")
		six, _, _ := impl.RunJournal(d, "")
		for k, end := range []impl.Desk{one, two, three, four, five, six} {
			if !impl.ValidDesk(end) {
				t.Errorf("a function of the line %.60q fails: %d", line, k)
			}
		}
		checkDesksApart(t, fmt.Sprintf("the line %.60q", line), d, one, two, three, four, five, six, impl.NewDesk(), impl.NewDesk())
	}
	text, lights := "3f800000,3f800000;3f800000", "2,1;3f800000,3f800000"
	desks := []impl.Desk{}
	for range 2 {
		s, one := impl.ReadScheme(text)
		p, two := impl.ReadPicture(lights)
		c, three := impl.ReadCoded("3,3;0101")
		if !one || !two || !three {
			t.Error("a part is not read")
		}
		desks = append(desks, impl.Desk{List: []float32{1}, Scheme: s, Picture: p, Coded: c})
	}
	checkDesksApart(t, "a part that is read", desks...)
	journal, _ := toldJournal("a", "b", "c")
	lines, _, _ := impl.RecoverJournal(journal)
	again, _, _ := impl.RecoverJournal(journal)
	whole(lines)[0] = "x"
	if again[0] != "a" || fmt.Sprint(lines[1:]) != "[b c]" {
		t.Error("lines that are recovered share memory")
	}
}
