package tests

import (
	"fmt"
	"math/rand/v2"
	"slices"
	"strings"
	"testing"

	"loop.example/g01317/impl"
)

// checkJournal checks the journal of lines, and that it is recovered.
func checkJournal(t *testing.T, want string, lines ...string) {
	t.Helper()
	journal, ok := impl.JournalOf(lines)
	checkText(t, fmt.Sprintf("JournalOf of %.60q", lines), journal, ok, want)
	checkRecoveredLines(t, want, lines, len(want))
}

// checkRecoveredLines checks the lines that a text tells, and what they do.
func checkRecoveredLines(t *testing.T, text string, want []string, long int) {
	t.Helper()
	lines, count, ok := impl.RecoverJournal(text)
	if !ok || !slices.Equal(lines, want) || count != int64(long) {
		t.Errorf("RecoverJournal of %.200q: got %.200q, %d, %v, want %.200q, %d", text, lines, count, ok, want, long)
	}
	d := impl.NewDesk()
	end, made, ok := impl.RunJournal(d, text)
	if told, _ := toldScript(d, want); !ok || made != int64(len(want)) || deskSeen(end) != deskSeen(told) {
		t.Errorf("RunJournal of %.200q: got %.200s, %d, %v, want %.200s, %d", text, deskSeen(end), made, ok, deskSeen(told), len(want))
	}
}

func TestPromise9JournalsByHand(t *testing.T) {
	checkJournal(t, "")
	checkJournal(t, "0 \n", "")
	checkJournal(t, "0 \n0 \n0 \n", "", "", "")
	checkJournal(t, "171  \n", " ")
	checkJournal(t, "150 \x0b\n", "\x0b")
	// The check number of a is 97 + 139, and that of b behind it 853 times this,
	// plus 98, plus 139, divided by 65003.
	checkJournal(t, "236 a\n6536 b\n", "a", "b")
	checkJournal(t, "237 b\n7388 a\n", "b", "a")
	checkJournal(t, "236 a\n236 \n6536 b\n6536 \n", "a", "", "b", "")
	checkJournal(t, "139 \x00\n53958 \xff\n", "\x00", "\xff")
	for _, lines := range [][]string{
		{"list"}, {"list", "list"}, {"grow", "list"}, {"grow", "what", "grow", "no", "", " ", "grow "}, {"list none", "list 40000000", "coded 1,0;11", "energy"}, {"a\rb", "\r", "\t", "é", "日本", "\xf0\x9f"}, {"0 ", "0", "0 0 ", "236 a"}, {" ", "  ", "   "}, {strings.Repeat(" ", 1000)}, {strings.Repeat("\xff", 5000), "list"},
	} {
		want, _ := toldJournal(lines...)
		checkJournal(t, want, lines...)
	}
}

func TestPromise9Journals(t *testing.T) {
	r := rand.New(rand.NewPCG(61, 8))
	for count := range 40 {
		for range 5 {
			lines := []string{}
			for range count {
				line := anyLine(r)
				if len(line) > 200 {
					line = "grow"
				}
				lines = append(lines, line)
			}
			want, _ := toldJournal(lines...)
			checkJournal(t, want, lines...)
		}
	}
}

func TestPromise9LinesWithoutJournals(t *testing.T) {
	for _, lines := range [][]string{
		{"\n"}, {"a\nb"}, {"\na"}, {"a\n"}, {"a", "b\n"}, {"a\n", "b"}, {"", "", "\n"}, {"a", "b\nc", "d"}, {"list\n0 "}, {"a\r\n"}, {"a\n236 a"},
		{strings.Repeat("x", 16000)}, {strings.Repeat("x", 100000)}, {strings.Repeat("x", 100000) + "\n"}, {strings.Repeat("x", 9000), strings.Repeat("x", 9000)}, list(5334, ""), list(100000, ""), append(list(5333, ""), "a"),
	} {
		journal, ok := impl.JournalOf(lines)
		checkNone(t, fmt.Sprintf("JournalOf of %.60q", lines), ok, journal)
	}
}

// filled returns lines whose journal has exactly as many bytes.
func filled(lines []string, long int) []string {
	before, _ := toldJournal(lines...)
	for _, letter := range []string{"x", "y", "z"} {
		for digits := range 6 {
			line := strings.Repeat(letter, long-len(before)-digits-2)
			all := append(append([]string{}, lines...), line)
			if journal, _ := toldJournal(all...); len(journal) == long {
				return all
			}
		}
	}
	return nil
}

func TestPromise9JournalsOfGreatestLength(t *testing.T) {
	for _, lines := range [][]string{{}, {"grow", "list"}, {"list 40000000", "no", "grow", "", "grow"}, list(2000, "")} {
		most := filled(lines, 16000)
		want, _ := toldJournal(most...)
		if len(want) != 16000 {
			t.Fatal("a journal has ", len(want), " bytes")
		}
		checkJournal(t, want, most...)
		checkRecoveredLines(t, want[:15999], most[:len(most)-1], len(want)-len(most[len(most)-1])-len(fmt.Sprint(checkNumberOf(most)))-2)
		for _, more := range [][]string{filled(lines, 16001), filled(lines, 16002), append(most, ""), append(most, "x")} {
			journal, ok := impl.JournalOf(more)
			checkNone(t, fmt.Sprintf("JournalOf of %.60q", more), ok, journal)
			text, _ := toldJournal(more...)
			checkNotRecovered(t, text)
		}
	}
	for _, text := range []string{strings.Repeat("x", 16001), strings.Repeat("0 \n", 5334), strings.Repeat("\n", 16001), strings.Repeat("\x00", 100000)} {
		checkNotRecovered(t, text)
	}
	checkJournal(t, strings.Repeat("0 \n", 5333), list(5333, "")...)
	checkRecoveredLines(t, strings.Repeat("0 \n", 5333)+"0", list(5333, ""), 15999)
	checkRecoveredLines(t, strings.Repeat("\n", 16000), nil, 0)
	checkRecoveredLines(t, strings.Repeat("x", 16000), nil, 0)
}

func checkNumberOf(lines []string) int {
	_, check := toldJournal(lines...)
	return check
}

func checkNotRecovered(t *testing.T, text string) {
	t.Helper()
	lines, count, ok := impl.RecoverJournal(text)
	checkNone(t, fmt.Sprintf("RecoverJournal of %.30q", text), ok, lines, count)
	d, count, ok := impl.RunJournal(impl.NewDesk(), text)
	checkNoDesk(t, fmt.Sprintf("RunJournal of %.30q", text), d, ok, count)
}

// wholeLines returns how many lines of a journal are whole in its first bytes, and
// how many bytes these lines have.
func wholeLines(journal string, at int) (count, long int) {
	before := journal[:at]
	return strings.Count(before, "\n"), strings.LastIndex(before, "\n") + 1
}

func TestPromise9JournalsThatAreCut(t *testing.T) {
	r := rand.New(rand.NewPCG(62, 8))
	for range 20 {
		lines := []string{"grow", "", "list 40000000,3f800000", " ", "what", "cut 3"}
		for range 3 {
			lines = append(lines, fmt.Sprint("x", r.Uint64(), " ", r.IntN(10)))
		}
		r.Shuffle(len(lines), func(i, j int) { lines[i], lines[j] = lines[j], lines[i] })
		journal, _ := toldJournal(lines...)
		for at := range len(journal) + 1 {
			count, long := wholeLines(journal, at)
			checkRecoveredLines(t, journal[:at], lines[:count], long)
			for _, rest := range []string{"\n", " \n", "0 \n", journal, "list\n"} {
				text := journal[:at] + rest
				told, toldLong := toldRecovered(text)
				checkRecoveredLines(t, text, told, toldLong)
			}
		}
	}
}

// A byte that is changed, taken away or put in leaves the lines before it.
func TestPromise9ChangedJournals(t *testing.T) {
	lines := []string{"grow", "", "list 40000000", " x", "energy "}
	journal, _ := toldJournal(lines...)
	for at := range journal {
		count, long := wholeLines(journal, at)
		changed := []byte(journal)
		for flip := 1; flip < 256; flip++ {
			changed[at] = journal[at] ^ byte(flip)
			checkRecoveredLines(t, string(changed), lines[:count], long)
		}
		without := journal[:at] + journal[at+1:]
		told, toldLong := toldRecovered(without)
		checkRecoveredLines(t, without, told, toldLong)
		for b := range 256 {
			with := journal[:at] + string([]byte{byte(b)}) + journal[at:]
			told, toldLong := toldRecovered(with)
			checkRecoveredLines(t, with, told, toldLong)
		}
	}
}

// The first line is not whole, however it is not.
func TestPromise9TextsOfNoJournals(t *testing.T) {
	whole := "236 a\n6536 b\n"
	for _, text := range append(oddTexts()[:len(wrongTexts())],
		"236 a", "236", "236 ", "236\n", "236 \n", " a\n", "a\n", "\n", "\n"+whole, " "+whole, "\x00"+whole,
		"0236 a\n", "00236 a\n", "+236 a\n", "-236 a\n", " 236 a\n", "236  a\n", "236 a \n", "236\ta\n", "236a\n", "236 A\n", "235 a\n", "237 a\n", "65239 a\n", "2.36e2 a\n", "0xec a\n", "２36 a\n", "236 a\r\n", "236 a\n"[1:], "236,a\n", "236 aa\n", "6536 b\n", "6536 b\n236 a\n",
		"00 \n", "-0 \n", "+0 \n", " \n", "0\n", "0  \n", "65003 \n", "1 \n", "0 \r\n", "0\n \n",
	) {
		checkRecoveredLines(t, text, nil, 0)
	}
	checkRecoveredLines(t, "236 a\n6536 b", []string{"a"}, 6)
	for _, rest := range []string{"06536 b\n", "+6536 b\n", "237 b\n", "236 a\n", "6536 c\n", "6536  b\n", "6536b\n", "71539 b\n", "0236 \n", "237 \n", "0 \n", "\n", " \n", "x"} {
		checkRecoveredLines(t, "236 a\n"+rest, []string{"a"}, 6)
		checkRecoveredLines(t, "236 a\n"+rest+"\n236 a\n", []string{"a"}, 6)
	}
	checkRecoveredLines(t, whole+"6536 \n06536 \n", []string{"a", "b", ""}, len(whole)+6)
}

// Check numbers have no leading zeros, though they have 1 to 5 digits.
func TestPromise9CheckNumbersOfLines(t *testing.T) {
	r := rand.New(rand.NewPCG(63, 8))
	lengths := map[int]int{}
	for range 60000 {
		line := fmt.Sprint(r.Uint32())
		check := checkNumberOf([]string{line})
		digits := len(fmt.Sprint(check))
		lengths[digits]++
		if digits == 5 && lengths[5] > 200 {
			continue
		}
		checkJournal(t, fmt.Sprintf("%d %s\n", check, line), line)
		checkRecoveredLines(t, fmt.Sprintf("0%d %s\n", check, line), nil, 0)
		if check < 10000 {
			checkRecoveredLines(t, fmt.Sprintf("%05d %s\n", check, line), nil, 0)
		}
	}
	if lengths[1] == 0 || lengths[2] == 0 || lengths[3] == 0 || lengths[4] == 0 || lengths[5] == 0 {
		t.Error("check numbers have ", lengths, " digits")
	}
}

// A journal does at any desk what a script of its lines does.
func TestPromise9JournalsAreScripts(t *testing.T) {
	r := rand.New(rand.NewPCG(64, 8))
	for range 200 {
		d, lines := anyDesk(r), []string{}
		for size := 0; len(lines) < 12; {
			line := anyLine(r)
			if size += len(line) + 7; size > 16000 {
				break
			}
			lines = append(lines, line)
		}
		journal, ok := impl.JournalOf(lines)
		if !ok {
			t.Error("JournalOf fails for lines of few bytes")
		}
		at := r.IntN(len(journal) + 1)
		whole, _ := wholeLines(journal, at)
		end, count, ok := impl.RunJournal(d, journal[:at])
		want, _ := toldScript(d, lines[:whole])
		if !ok || count != int64(whole) || deskSeen(end) != deskSeen(want) {
			t.Errorf("RunJournal of %.100q: %d, %v, want %d", journal[:at], count, ok, whole)
		}
		end, count, ok = impl.RunJournal(d, journal)
		script, _, found := impl.RunDesk(d, strings.Join(append(lines, ""), "\n"))
		if !ok || !found || count != int64(len(lines)) || !impl.SameDesk(end, script) {
			t.Errorf("RunJournal of %.100q: %d, %v, but RunDesk does something else", journal, count, ok)
		}
	}
}
