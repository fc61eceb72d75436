package tests

import (
	"fmt"
	"math/rand/v2"
	"strings"
	"testing"

	"loop.example/g01317/impl"
)

const newDeskText = "3f800000,40400000,40000000 bf000000,3e800000;3f800000 4,2;00000000,00000000,40800000,40800000,00000000,00000000,40800000,40800000 2,2;100111"

func TestPromise9NewDesk(t *testing.T) {
	d := impl.NewDesk()
	if deskSeen(d) != newDeskText || !impl.ValidDesk(d) {
		t.Error("NewDesk: ", deskSeen(d))
	}
}

// desksAtLimits are valid ones with as little and as much as there may be.
func desksAtLimits() []impl.Desk {
	return []impl.Desk{
		impl.NewDesk(),
		{List: []float32{0}, Scheme: impl.Scheme{Weights: []float32{0}, Scale: number(1)}, Picture: pictureOf(1, 1, 0), Coded: codedOf(1, 0, "")},
		{List: list(128, number(0x7f7fffff)), Scheme: impl.Scheme{Weights: list(8, number(0xff7fffff)), Scale: number(0x7f7fffff)}, Picture: pictureOf(16, 16, list(256, number(0x7f7fffff))...), Coded: impl.Coded{Count: 128, Top: 24, Bits: list(32768, true)}},
		{List: list(128, float32(1.5)), Scheme: impl.NineScheme(), Picture: indexPicture(16, 16), Coded: codedOf(128, 24, strings.Repeat("1", 128))},
	}
}

// wrongDesks are those of which one part is not valid.
func wrongDesks() []impl.Desk {
	all := []impl.Desk{{}}
	for _, x := range wrongLists() {
		d := impl.NewDesk()
		d.List = x
		all = append(all, d)
	}
	for _, s := range wrongSchemes() {
		d := impl.NewDesk()
		d.Scheme = s
		all = append(all, d)
	}
	for _, p := range wrongPictures() {
		d := impl.NewDesk()
		d.Picture = p
		all = append(all, d)
	}
	for _, c := range wrongCodes() {
		d := impl.NewDesk()
		d.Coded = c
		all = append(all, d)
	}
	return all
}

func checkNoDesk(t *testing.T, what string, d impl.Desk, ok bool, others ...any) {
	t.Helper()
	if ok || deskSeen(d) != deskSeen(impl.Desk{}) {
		t.Errorf("%s: got %s, %v, want a failure", what, deskSeen(d), ok)
	}
	checkNone(t, what, ok, others...)
}

func TestPromise9ValidDesks(t *testing.T) {
	for _, d := range desksAtLimits() {
		if !impl.ValidDesk(d) {
			t.Errorf("ValidDesk is false for %.100s", deskSeen(d))
		}
	}
	for _, d := range wrongDesks() {
		what := fmt.Sprintf("a function of %.100s", deskSeen(d))
		if impl.ValidDesk(d) {
			t.Error("ValidDesk is true: ", what)
		}
		for _, line := range []string{"", "what", "no", "list", "list 3f800000", "scheme bf000000;3f800000", "picture 1,1;00000000", "coded 1,0;", "grow", "lift none"} {
			after, output, ok := impl.DeskCommand(d, line)
			checkNoDesk(t, "DeskCommand, "+what, after, ok, output)
			after, output, ok = impl.RunDesk(d, line+"\n")
			checkNoDesk(t, "RunDesk, "+what, after, ok, output)
			journal, _ := toldJournal(line)
			after, count, ok := impl.RunJournal(d, journal)
			checkNoDesk(t, "RunJournal, "+what, after, ok, count)
		}
		after, output, ok := impl.RunDesk(d, "")
		checkNoDesk(t, "RunDesk, "+what, after, ok, output)
		after, count, ok := impl.RunJournal(d, "")
		checkNoDesk(t, "RunJournal, "+what, after, ok, count)
	}
}

func TestPromise9SameDesks(t *testing.T) {
	odd, minus := number(0x7f800001), number(minusZeroBits)
	a := impl.Desk{List: []float32{1, minus, odd}, Scheme: impl.Scheme{Weights: []float32{odd, minus}, Scale: odd}, Picture: pictureOf(-3, 99, odd, minus), Coded: codedOf(-1, 99, "101")}
	b := impl.Desk{List: numbersOf(0x3f800000, minusZeroBits, 0xffc12345), Scheme: impl.Scheme{Weights: numbersOf(notANumberBits, minusZeroBits), Scale: number(notANumberBits)}, Picture: pictureOf(-3, 99, number(0xffffffff), minus), Coded: codedOf(-1, 99, "101")}
	empty := impl.Desk{List: []float32{}, Scheme: impl.Scheme{Weights: []float32{}}, Picture: impl.Picture{Lights: []float32{}}, Coded: impl.Coded{Bits: []bool{}}}
	for _, c := range append(desksAtLimits(), append(wrongDesks(), a)...) {
		if !impl.SameDesk(c, c) {
			t.Errorf("SameDesk is false for the same desk %.100s", deskSeen(c))
		}
	}
	if !impl.SameDesk(a, b) || !impl.SameDesk(b, a) || !impl.SameDesk(impl.Desk{}, empty) || !impl.SameDesk(empty, impl.Desk{}) {
		t.Error("SameDesk is false for desks with the same numbers")
	}
	for _, change := range []func(d *impl.Desk){
		func(d *impl.Desk) { d.List = nil },
		func(d *impl.Desk) { d.List = d.List[:2] },
		func(d *impl.Desk) { d.List = []float32{1, minus, odd, 0} },
		func(d *impl.Desk) { d.List = []float32{1, 0, odd} },
		func(d *impl.Desk) { d.List = []float32{1, minus, 0} },
		func(d *impl.Desk) { d.List = []float32{minus, 1, odd} },
		func(d *impl.Desk) { d.Scheme = impl.Scheme{} },
		func(d *impl.Desk) { d.Scheme.Scale = 1 },
		func(d *impl.Desk) { d.Scheme.Weights = []float32{odd, 0} },
		func(d *impl.Desk) { d.Scheme.Weights = []float32{odd} },
		func(d *impl.Desk) { d.Picture = impl.Picture{} },
		func(d *impl.Desk) { d.Picture.Wide = 3 },
		func(d *impl.Desk) { d.Picture.High = 98 },
		func(d *impl.Desk) { d.Picture.Lights = []float32{odd, 0} },
		func(d *impl.Desk) { d.Picture.Lights = []float32{odd} },
		func(d *impl.Desk) { d.Coded = impl.Coded{} },
		func(d *impl.Desk) { d.Coded.Count = 1 },
		func(d *impl.Desk) { d.Coded.Top = 98 },
		func(d *impl.Desk) { d.Coded = codedOf(-1, 99, "100") },
		func(d *impl.Desk) { d.Coded = codedOf(-1, 99, "1010") },
	} {
		c := a
		change(&c)
		if impl.SameDesk(a, c) || impl.SameDesk(c, a) || impl.SameDesk(c, b) {
			t.Error("SameDesk is true for ", deskSeen(a), " and ", deskSeen(c))
		}
	}
}

// checkLine checks what a line does at a desk, and returns the desk after it.
func checkLine(t *testing.T, d impl.Desk, line, wantOutput, wantDesk string) impl.Desk {
	t.Helper()
	after, output, ok := impl.DeskCommand(d, line)
	if !ok || output != wantOutput || deskSeen(after) != wantDesk {
		t.Errorf("the line %.100q: got %.300q, %v and %.600s, want %.300q and %.600s", line, output, ok, deskSeen(after), wantOutput, wantDesk)
	}
	return after
}

// Each line of the table is carried out at a new desk.
func TestPromise9LinesByHand(t *testing.T) {
	parts := strings.Split(newDeskText, " ")
	for _, c := range []struct {
		line, output string
		part         int
		text         string
	}{
		{"list", parts[0], 0, parts[0]}, {"scheme", parts[1], 0, parts[0]}, {"picture", parts[2], 0, parts[0]}, {"coded", "2,2;100111", 0, parts[0]},
		{"list 40a00000,80000000", "ok", 0, "40a00000,80000000"}, {"list 00000001", "ok", 0, "00000001"}, {"list " + parts[0], "ok", 0, parts[0]},
		{"scheme 80000000;40000000", "ok", 1, "80000000;40000000"}, {"scheme " + parts[1], "ok", 1, parts[1]},
		{"picture 1,1;80000000", "ok", 2, "1,1;80000000"}, {"picture " + parts[2], "ok", 2, parts[2]},
		{"coded 1,0;", "ok", 3, "1,0;"}, {"coded 1,0;11", "ok", 3, "1,0;11"}, {"coded 128,24;0", "ok", 3, "128,24;0"}, {"coded 2,2;100111", "ok", 3, "2,2;100111"},
		{"lift 1", "3fe00000,40300000,3fc00000", 0, parts[0]}, {"lift 2", "40100000,3f800000,3fc00000", 0, parts[0]}, {"lift 6", "40100000,3f800000,3fc00000", 0, parts[0]},
		{"sizes 1", "1,2", 0, parts[0]}, {"sizes 2", "1,1,1", 0, parts[0]}, {"sizes 6", "1,1,1", 0, parts[0]},
		{"quiet 1 40000000", "1", 0, "3fe00000,40100000,40300000"}, {"quiet 1 3fc00000", "1", 0, "3fe00000,40100000,40300000"}, {"quiet 1 3fbfffff", "0", 0, parts[0]}, {"quiet 1 00000000", "0", 0, parts[0]}, {"quiet 1 80000000", "0", 0, parts[0]}, {"quiet 2 40000000", "2", 0, "40100000,40100000,40100000"}, {"quiet 2 3f800000", "1", 0, "3fc00000,40400000,3fc00000"}, {"quiet 6 7f7fffff", "2", 0, "40100000,40100000,40100000"},
		{"coarse 1 0", "ok", 0, "3fe00000,40100000,40300000"}, {"coarse 1 1", "ok", 0, parts[0]}, {"coarse 2 1", "ok", 0, "3fe00000,40100000,40300000"}, {"coarse 2 0", "ok", 0, "40100000,40100000,40100000"}, {"coarse 2 2", "ok", 0, parts[0]}, {"coarse 6 1000000000000000", "ok", 0, parts[0]},
		{"grow", "ok", 0, "3f800000,40000000,40400000,40200000,40000000,40000000"}, {"energy", "41600000", 0, parts[0]},
		{"code 3f800000", "9", 3, "3,2;010101010"}, {"code 40000000", "5", 3, "3,1;01010"}, {"code 40800000", "0", 3, "3,0;"},
		{"cut 3", "ok", 3, "2,2;100"}, {"cut 0", "ok", 3, "2,2;"}, {"cut 6", "ok", 3, "2,2;100111"},
		{"tell 3f800000", "ok", 0, "40600000,bfc00000"}, {"tell 3f000000", "ok", 0, "3fe00000,bf400000"},
		{"rates 1 3f800000", "0,4,9", 0, parts[0]}, {"rates 7 3f800000", "no", 0, parts[0]}, {"rates 1 41200000", "0", 0, parts[0]},
		{"bands 1", "40800000,00000000,00000000,41540000", 0, parts[0]},
		{"thumb 1", "ok", 2, "2,1;bf800000,40600000"},
		{"soft 1 3f800000", "ok", 2, "4,2;bf000000,3f200000,40700000,40700000,bf000000,3f200000,40700000,40700000"}, {"soft 1 00000000", "ok", 2, parts[2]}, {"soft 1 80000000", "ok", 2, parts[2]},
		{"mark 10 3f800000", "ok", 2, "4,2;bf000000,3f200000,40700000,40700000,bf000000,3f200000,40700000,40700000"},
		{"marks 1 3f800000", "0", 0, parts[0]}, {"marks 2 3f800000", "00", 0, parts[0]}, {"marks 2 40000000", "10", 0, parts[0]}, {"marks 1 40000000", "1", 0, parts[0]},
	} {
		want := append([]string{}, parts...)
		want[c.part] = c.text
		checkLine(t, impl.NewDesk(), c.line, c.output, strings.Join(want, " "))
	}
}

// badIntegers are words that are no numbers in decimal, and badNumbers those that
// are no texts of lists of one number.
func badIntegers() []string {
	return []string{"", "x", "N", "01", "00", "+1", "-0", "--1", "1.0", "1e0", "0x1", "1_0", "1,1", "1,", ",1", "1;", "none", "1\t", "\t1", "1\n", "\n", "1\x00", "１", "1000000000000001", "-1000000000000001", "9223372036854775808", "18446744073709551617", strings.Repeat("1", 1000), "3f800000"}
}

func badNumbers() []string {
	return []string{"", "x", "X", "none", "1", "0", "-1", "3f80000", "3f8000000", "3F800000", "3f80000g", "3f800000,3f800000", "3f800000,", ",3f800000", "3f800000;", "+3f80000", "-3f80000", "0x3f8000", "3f800000\n", "\t3f80000", "3f80000\x00", "7f800000", "ff800000", "7fc00000", "7f800001", "ffc00000", "7fc00001", "3f800000,none", strings.Repeat("3f800000,", 256) + "3f800000"}
}

func checkRefused(t *testing.T, d impl.Desk, line string) {
	t.Helper()
	checkLine(t, d, line, "no", deskSeen(d))
}

func TestPromise9WordsThatAreRefused(t *testing.T) {
	good := map[string]string{"N": "1", "K": "1", "X": "3f800000", "BITS": "10"}
	bad := map[string][]string{
		"N": badIntegers(), "K": append(badIntegers(), "-1"), "X": append(badNumbers(), "bf800000"),
		"BITS": {"", "2", "x", "1x", "x1", "-1", "+1", "0x1", "1,0", "none", "10\n", "１", "\xff", "10101010101010101", strings.Repeat("1", 32768), strings.Repeat("1", 32769), "101"},
		"TEXT": append(oddTexts()[:len(wrongTexts())], "1", "none", "\n", "x", ";", "x;x", "7f800000", "ff800000,3f800000", "7fc00000", "1,1", "0,0;", "none;3f800000", "3f800000;00000000", "3f800000;7f800000", "1,1;7f800000", "129,1;1", "00000000"+strings.Repeat(",00000000", 128), "00000000"+strings.Repeat(",00000000", 255), "00000000"+strings.Repeat(",00000000", 256)),
	}
	d := impl.NewDesk()
	for _, form := range lineForms() {
		names := strings.Split(form, " ")
		for k, name := range names[1:] {
			for _, word := range bad[name] {
				line := names[0]
				for j, other := range names[1:] {
					if j == k {
						line += " " + strings.ReplaceAll(word, " ", "_")
					} else {
						line += " " + good[other]
					}
				}
				checkRefused(t, d, line)
			}
		}
	}
}

// The functions of these lines fail, though each word is what it must be, or the
// desk would not be valid.
func TestPromise9FunctionsThatFail(t *testing.T) {
	at := func(lines ...string) impl.Desk {
		d, _, ok := impl.RunDesk(impl.NewDesk(), strings.Join(lines, "\n")+"\n")
		if !ok {
			t.Fatal("RunDesk fails for ", lines)
		}
		return d
	}
	d := impl.NewDesk()
	for _, n := range []string{"0", "-1", "7", "1000000000000000", "-1000000000000000"} {
		for _, line := range []string{"lift N", "sizes N", "quiet N 3f800000", "coarse N 1", "rates N 3f800000", "bands N", "thumb N", "soft N 3f800000", "marks N 3f800000"} {
			checkRefused(t, d, strings.ReplaceAll(line, "N", n))
		}
	}
	for _, line := range []string{"bands 5", "thumb 5", "soft 5 3f800000", "marks 3 3f800000", "marks 17 3f800000", "marks 1 2edbe6ff", "mark 1 2edbe6ff", "coarse 1 -1", "coarse 1 -1000000000000000", "cut -1", "cut 7", "cut 1000000000000000"} {
		checkRefused(t, d, line)
	}
	for _, x := range []string{"00000000", "80000000", "bf800000", "80000001"} {
		for _, line := range []string{"code X", "tell X", "rates 1 X", "mark 1 X", "marks 1 X"} {
			checkRefused(t, d, strings.ReplaceAll(line, "X", x))
		}
	}
	for _, x := range []string{"bf800000", "80000001", "ff7fffff"} {
		checkRefused(t, d, "quiet 1 "+x)
		checkRefused(t, d, "soft 1 "+x)
	}
	for _, x := range []string{"00000001", "33d6bf95"} { // too small a step makes integers that are none
		checkRefused(t, d, "code "+x)
		checkRefused(t, d, "rates 1 "+x)
	}
	huge := at("list 7f7fffff,ff7fffff,7f7fffff", "scheme 7f7fffff;3f800000")
	for _, line := range []string{"energy", "lift 1", "quiet 1 3f800000", "coarse 1 1", "rates 1 7f7fffff", "grow"} {
		checkRefused(t, huge, line)
	}
	checkRefused(t, at("list 60000000"), "energy")
	checkRefused(t, at("picture 1,2;60000000,00000000"), "bands 1")
	checkRefused(t, at("picture 1,4;3f800000,3f800000,3f800000,3f800000"), "mark 1 3f800000")
	checkRefused(t, at("picture 1,4;3f800000,3f800000,3f800000,3f800000"), "marks 1 3f800000")
	checkRefused(t, at("picture 2,2;7f7fffff,ff7fffff,7f7fffff,ff7fffff"), "thumb 1")
	checkRefused(t, at("picture 2,2;7f7fffff,ff7fffff,7f7fffff,ff7fffff"), "soft 1 00000000")
	for _, coded := range []string{"1,0;1", "2,1;10111", "1,1;100", "1,20;" + strings.Repeat("1", 21), "1,24;11"} {
		checkRefused(t, at("coded "+coded), "tell 3f800000")
	}
	checkRefused(t, d, "tell 7f7fffff")
	sixtyFive := at("list 3f800000"+strings.Repeat(",40000000", 64), "picture 16,16;"+"00000000"+strings.Repeat(",3f800000", 255))
	checkRefused(t, sixtyFive, "grow")
	long := at("list 3f800000"+strings.Repeat(",40000000", 63), "grow")
	if len(long.List) != 128 {
		t.Error("a list of 64 numbers has grown to ", len(long.List))
	}
	checkRefused(t, long, "grow")
	checkRefused(t, sixtyFive, "marks 17 3f800000")
	checkRefused(t, sixtyFive, "mark 10101010101010101 3f800000")
	checkLine(t, sixtyFive, "marks 16 3f800000", "0000000000000000", deskSeen(sixtyFive))
}

// Lines have a form only if they have its name and as many words, whatever these are.
func TestPromise9LinesThatAreUnknown(t *testing.T) {
	counts := map[string][]int{}
	for _, form := range lineForms() {
		words := strings.Split(form, " ")
		counts[words[0]] = append(counts[words[0]], len(words)-1)
	}
	d := impl.NewDesk()
	unknown := func(line string) {
		t.Helper()
		checkLine(t, d, line, "what", newDeskText)
	}
	for name, known := range counts {
		for count := range 6 {
			isKnown := count == known[0] || count == known[len(known)-1]
			for _, word := range []string{"1", "3f800000", "", "x"} {
				line := name + strings.Repeat(" "+word, count)
				if !isKnown {
					unknown(line)
				}
				unknown(" " + line)
				unknown("  " + line)
				unknown("x " + line)
			}
		}
		for _, other := range []string{name + "s", name[1:], name[:len(name)-1], strings.ToUpper(name), strings.ToUpper(name[:1]) + name[1:], name + "\t", name + "\t1", name + ",", name + "\n", name + "\r", "\n" + name, name + "\x00", "\x00" + name, name + name, "_" + name} {
			if counts[other] == nil {
				unknown(other)
				unknown(other + " 1")
				unknown(other + " 1 3f800000")
			}
		}
	}
	for _, line := range []string{"", " ", "  ", "   ", "\n", "\t", "what", "no", "ok", "nothing", "N", "X", "TEXT", "list TEXT TEXT", "0", "1", "3f800000", "\xff", "é", "list  3f800000", "list 3f800000 ", "quiet  1 3f800000", "quiet 1  3f800000", "quiet 1 3f800000 ", "lift  1", "lift 1 ", strings.Repeat(" ", 100000), strings.Repeat("list ", 20000), strings.Repeat("x", 100000)} {
		unknown(line)
	}
}

// A line of any form and any words does what the functions tell.
func TestPromise9LinesAsTold(t *testing.T) {
	r := rand.New(rand.NewPCG(53, 8))
	counts := map[string]int{}
	for range 500 {
		d := anyDesk(r)
		for range 40 {
			line := anyLine(r)
			want, output := toldCommand(d, line)
			d = checkLine(t, d, line, output, deskSeen(want))
			name, _, _ := strings.Cut(line, " ")
			switch output {
			case "no", "what":
				counts[name+" "+output]++
			default:
				counts[name]++
			}
		}
	}
	for _, form := range lineForms() {
		name, words, _ := strings.Cut(form, " ")
		if counts[name] < 50 || words != "" && counts[name+" no"] < 20 {
			t.Error("lines of the form ", form, " are carried out ", counts[name], " times, and not so ", counts[name+" no"], " times")
		}
	}
}

// What lines tell and do not change stays, to the last bit.
func TestPromise9LinesThatChangeNothing(t *testing.T) {
	for _, d := range desksAtLimits() {
		for _, line := range []string{"list", "scheme", "picture", "coded", "lift 1", "lift 6", "sizes 1", "energy", "rates 1 3f800000", "bands 1", "marks 1 3f800000", "", "what", "no", "list none", "cut -1", "grow 1", "quiet 0 3f800000", "picture x", "scheme ;", "coded ,;", " grow", "grow "} {
			after, output, ok := impl.DeskCommand(d, line)
			want, told := toldCommand(d, line)
			if !ok || output != told || deskSeen(after) != deskSeen(d) || deskSeen(want) != deskSeen(d) || !impl.SameDesk(after, d) {
				t.Errorf("the line %q: %.100s, %v, want %.100s", line, output, ok, told)
			}
		}
	}
}

func TestPromise9LongestOutputs(t *testing.T) {
	last := desksAtLimits()[2]
	for line, want := range map[string]string{
		"coded": "128,24;" + strings.Repeat("1", 32768), "list": "7f7fffff" + strings.Repeat(",7f7fffff", 127), "picture": "16,16;7f7fffff" + strings.Repeat(",7f7fffff", 255), "scheme": "ff7fffff" + strings.Repeat(",ff7fffff", 7) + ";7f7fffff", "cut 32769": "no", "energy": "no",
	} {
		checkLine(t, last, line, want, deskSeen(last))
	}
	// A desk takes lines that are longer than a script.
	d := impl.NewDesk()
	d = checkLine(t, d, "coded "+toldCoded(last.Coded), "ok", strings.ReplaceAll(newDeskText, "2,2;100111", toldCoded(last.Coded)))
	d = checkLine(t, d, "cut 32768", "ok", deskSeen(d))
	cut := d
	cut.Coded.Bits = cut.Coded.Bits[:32767]
	checkLine(t, d, "cut 32767", "ok", deskSeen(cut))
}

// checkScript checks what a script of lines does.
func checkScript(t *testing.T, d impl.Desk, lines []string) {
	t.Helper()
	script := strings.Join(append(append([]string{}, lines...), ""), "\n")
	after, outputs, ok := impl.RunDesk(d, script)
	want, told := toldScript(d, lines)
	all := strings.Join(append(told, ""), "\n")
	if !ok || outputs != all || deskSeen(after) != deskSeen(want) {
		t.Errorf("the script %.100q: got %.300q, %v and %.300s, want %.300q and %.300s", script, outputs, ok, deskSeen(after), all, deskSeen(want))
	}
}

func TestPromise9Scripts(t *testing.T) {
	r := rand.New(rand.NewPCG(54, 8))
	for count := range 60 {
		for range 4 {
			lines := []string{}
			for size := 0; len(lines) < count; {
				line := anyLine(r)
				if size += len(line) + 1; size > 16000 {
					break
				}
				lines = append(lines, line)
			}
			checkScript(t, anyDesk(r), lines)
		}
	}
	for _, lines := range [][]string{{}, {""}, {"", "", ""}, {"list"}, {"list", ""}, {"", "list"}, {"list\r"}, {" list"}, {"list "}, {"grow", "grow", "grow", "grow", "grow", "grow", "list"}, {"coded x", "coded"}, {"list none", "energy"}, {"\x00", "\xff"}} {
		checkScript(t, impl.NewDesk(), lines)
	}
}

func TestPromise9ScriptsThatFail(t *testing.T) {
	d := impl.NewDesk()
	for _, script := range []string{"grow", "list", "x", " ", "\r", "\n ", "grow\nlist", "\nlist", "list\n ", "list\n\x00", "list\n\r", strings.Repeat("\n", 16001), strings.Repeat("x", 16000), strings.Repeat("x", 16000) + "\n", strings.Repeat("\n", 15999) + "x", strings.Repeat("list\n", 3200) + "\n", strings.Repeat("\n", 100000)} {
		after, outputs, ok := impl.RunDesk(d, script)
		checkNoDesk(t, fmt.Sprintf("RunDesk of %.30q", script), after, ok, outputs)
	}
}

func TestPromise9ScriptsOfGreatestLength(t *testing.T) {
	d := impl.NewDesk()
	after, outputs, ok := impl.RunDesk(d, strings.Repeat("\n", 16000))
	if !ok || outputs != strings.Repeat("what\n", 16000) || deskSeen(after) != newDeskText {
		t.Errorf("RunDesk of 16000 newlines: %.50q, %v", outputs, ok)
	}
	after, outputs, ok = impl.RunDesk(d, strings.Repeat("x", 15999)+"\n")
	if !ok || outputs != "what\n" || deskSeen(after) != newDeskText {
		t.Errorf("RunDesk of a line of 16000 bytes: %.50q, %v", outputs, ok)
	}
	checkScript(t, d, append(list(3199, "list"), "grow"))
	// The outputs of a script can be much longer than any script.
	last := desksAtLimits()[2]
	after, outputs, ok = impl.RunDesk(last, strings.Repeat("coded\n", 2666)+"ok?\n")
	if !ok || outputs != strings.Repeat(toldCoded(last.Coded)+"\n", 2666)+"what\n" || deskSeen(after) != deskSeen(last) {
		t.Errorf("RunDesk of 2666 long outputs: %d bytes, %v", len(outputs), ok)
	}
	code := "1,0;" + strings.Repeat("0", 16000-len("coded 1,0;\n"))
	after, outputs, ok = impl.RunDesk(d, "coded "+code+"\n")
	if !ok || outputs != "ok\n" || toldCoded(after.Coded) != code {
		t.Errorf("RunDesk of a code of 16000 bytes: %.50q, %v", outputs, ok)
	}
}

// A script does what its lines do, one after another, and what two scripts do of
// which it is made.
func TestPromise9ScriptsAreTheirLines(t *testing.T) {
	r := rand.New(rand.NewPCG(55, 8))
	for range 300 {
		d := anyDesk(r)
		script, outputs, at := "", "", d
		for range r.IntN(20) {
			if line := anyLine(r); len(script)+len(line) < 16000 {
				after, output, ok := impl.DeskCommand(at, line)
				if !ok {
					t.Errorf("DeskCommand fails for %.100q", line)
				}
				at, script, outputs = after, script+line+"\n", outputs+output+"\n"
			}
		}
		end, all, ok := impl.RunDesk(d, script)
		if !ok || all != outputs || !impl.SameDesk(end, at) {
			t.Errorf("RunDesk of %.100q: %.100q, %v, want %.100q", script, all, ok, outputs)
		}
	}
}

func TestPromise9Outputs(t *testing.T) {
	for _, c := range []struct {
		text      string
		bad, good int64
	}{
		{"", 0, 0}, {"\n", 0, 1}, {"\n\n", 0, 2}, {"no\n", 1, 0}, {"what\n", 1, 0}, {"ok\n", 0, 1}, {"no\nwhat\nok\n", 2, 1}, {"ok\nno\n3f800000\nwhat\nno\n\n", 3, 3}, {"no \n no\nNo\nNO\nno\r\nnone\nnono\nn\no\nno,\nwhat?\nWhat\nwhat \n what\nwha\nwhats\nwhat what\n\x00no\nno\x00\n\xff\n", 0, 20}, {"no\nno\nno\n", 3, 0},
		{strings.Repeat("\n", 16000), 0, 16000}, {strings.Repeat("no\n", 5333) + "\n", 5333, 1}, {strings.Repeat("what\n", 3200), 3200, 0}, {strings.Repeat("x", 15999) + "\n", 0, 1},
	} {
		bad, good, ok := impl.CountOutputs(c.text)
		if !ok || bad != c.bad || good != c.good {
			t.Errorf("CountOutputs of %.100q: %d, %d, %v, want %d, %d", c.text, bad, good, ok, c.bad, c.good)
		}
	}
	for _, text := range []string{"no", "what", "ok", "x", " ", "\r", "no\nwhat", "no\n ", "ok\nno", "\n\x00", strings.Repeat("\n", 16001), strings.Repeat("no\n", 5333) + "no", strings.Repeat("x", 16000), strings.Repeat("x", 16000) + "\n", strings.Repeat("what\n", 3200) + "\n", strings.Repeat("no\n", 100000)} {
		bad, good, ok := impl.CountOutputs(text)
		checkNone(t, fmt.Sprintf("CountOutputs of %.30q", text), ok, bad, good)
	}
}

// The outputs of a desk are counted as they have come.
func TestPromise9OutputsOfDesks(t *testing.T) {
	r := rand.New(rand.NewPCG(56, 8))
	counted := 0
	for range 300 {
		lines := []string{}
		for range 8 {
			lines = append(lines, anyLine(r))
		}
		_, outputs := toldScript(anyDesk(r), lines)
		text := strings.Join(append(outputs, ""), "\n")
		bad, good, ok := impl.CountOutputs(text)
		if len(text) > 16000 {
			checkNone(t, "CountOutputs of a long text", ok, bad, good)
			continue
		}
		counted++
		var want int64
		for _, output := range outputs {
			if output == "no" || output == "what" {
				want++
			}
		}
		if !ok || bad != want || good != 8-want {
			t.Errorf("CountOutputs of %.100q: %d, %d, %v, want %d", text, bad, good, ok, want)
		}
	}
	if counted < 200 {
		t.Error("only ", counted, " outputs are counted")
	}
}
