package tally_test

import (
	"math/big"
	"regexp"
	"slices"
	"strconv"
	"strings"
	"testing"

	"calx/api"
	"calx/tally"
)

func TestPrint(t *testing.T) {
	ends := api.Bundle{Wrong: api.MaxFee, Worths: slices.Repeat(list(api.MaxNotchIn), api.MaxNotches),
		Stocks: sticks(stick(api.MaxID, api.MaxPerson, slices.Repeat(list(worn, 9, 0), 4)...))}
	for _, x := range []struct {
		b    api.Bundle
		want string
	}{
		{example(), exampleText},
		{api.Bundle{Worths: list(0)}, "costs 0 0 0 0\nworths 0\n"},
		{api.Bundle{Wrong: 1, Worn: 20, LostStock: 300, LostFoil: 1000, Worths: list(5, 60), Foils: sticks(stick(8, 0, worn, worn), stick(2, 10, 0, 9))}, "costs 1 20 300 1000\nworths 5 60\nfoil 8 0 - -\nfoil 2 10 0 9\n"},
		{ends, "costs 1000 0 0 0\nworths" + strings.Repeat(" 1000", 12) + "\nstock 1099511627776 9999" + strings.Repeat(" - 9 0", 4) + "\n"},
	} {
		if text, e := tally.Print(x.b); text != x.want || e != api.OK {
			t.Errorf("P7.2: %q %v", text, e)
		}
		if b, e, at := tally.Parse(x.want); !equalBundles(b, x.b) || e != api.OK || at != -1 {
			t.Error("P7.2:", b, e, at)
		}
	}
}

// checkParse checks what Parse tells of a text that it does not take.
func checkParse(t *testing.T, text string, want api.Errno, line int) {
	t.Helper()
	if b, e, at := tally.Parse(text); !isNoBundle(b) || e != want || at != line {
		t.Errorf("P7.2: %q: %v %v, not %v %v", text, e, at, want, line)
	}
}

// head is the first two lines of a text of tallies with two notches.
const head = "costs 1 2 3 4\nworths 10 1\n"

func TestParseLines(t *testing.T) {
	for _, line := range []string{
		"", "costs", "costs ", "costs 1 2 3", "costs 1 2 3 ", "costs 1 2 3 4 ", " costs 1 2 3 4", "costs  1 2 3 4", "costs 1 2  3 4", "costs 1 2 3 4 5", "cost 1 2 3 4", "costss 1 2 3 4", "Costs 1 2 3 4", "costs1 2 3 4", "costs\t1 2 3 4", "costs 1 2 3 4\r",
		"costs 01 2 3 4", "costs 1 00 3 4", "costs 1 2 +3 4", "costs 1 2 3 -4", "costs 1 2 3 -0", "costs 1 2 - 4", "costs 1 x 3 4", "costs 1 2 3 4x", "costs 0x1 2 3 4", "costs 1_0 2 3 4", "costs 1.0 2 3 4", "costs ١ 2 3 4", "costs 1 2 \x003 4",
		"costs 1001 2 3 4", "costs 1 1001 3 4", "costs 1 2 1001 4", "costs 1 2 3 1001", "costs 18446744073709551617 2 3 4", "costs 1 2 3 99999999999999999999999999", "worths 10 1", "stock 1 1 2 3",
	} {
		checkParse(t, line+"\nworths 10 1\nstock 1 2 3 4\n", api.ErrForm, 0)
	}
	for _, line := range []string{
		"", "worths", "worths ", "worths  1", "worths 1 ", " worths 1", "worth 1", "worthss 1", "worths" + strings.Repeat(" 1", api.MaxNotches+1), "worths 1001", "worths 1 1001", "worths 01", "worths -1", "worths -", "worths 1 x", "worths 1\r", "worths 9223372036854775808", "costs 1 2 3 4", "stock 1 1 2 3",
	} {
		checkParse(t, "costs 1 2 3 4\n"+line+"\nstock 1 2 3 4\n", api.ErrForm, 1)
	}
	for _, line := range []string{
		"", " ", "KIND", "KIND ", "KIND 5", "KIND 5 6", "KIND 5 6 7", "KIND 5 6 7 8 9", "KIND 5 6 7 8 ", " KIND 5 6 7 8", "KIND 5 6 7  8", "KIND 5 6 7 8 -", "KINDs 5 6 7 8", "KIN 5 6 7 8", "KIND5 6 7 8", "kind 5 6 7 8", "#KIND 5 6 7 8",
		"KIND 0 6 7 8", "KIND - 6 7 8", "KIND -5 6 7 8", "KIND 05 6 7 8", "KIND 1099511627777 6 7 8", "KIND 9223372036854775813 6 7 8", "KIND 18446744073709551621 6 7 8",
		"KIND 5 - 7 8", "KIND 5 -6 7 8", "KIND 5 10000 7 8", "KIND 5 06 7 8", "KIND 5 x 7 8",
		"KIND 5 6 10 8", "KIND 5 6 7 10", "KIND 5 6 07 8", "KIND 5 6 7 -1", "KIND 5 6 7 --", "KIND 5 6 7 - ", "KIND 5 6 -7 8", "KIND 5 6 7- 8", "KIND 5 6 7 8-", "KIND 5 6 7 _", "KIND 5 6 7 8\r", "costs 1 2 3 4", "worths 10 1",
	} {
		checkParse(t, head+"stock 1 1 1 1\nstock 2 1 1 1\n"+strings.ReplaceAll(line, "KIND", "stock")+"\nstock 3 1 1 1\nfoil 4 1 1 1\n", api.ErrForm, 4)
		checkParse(t, head+"stock 1 1 1 1\nfoil 2 1 1 1\n"+strings.ReplaceAll(line, "KIND", "foil")+"\nfoil 4 1 1 1\n", api.ErrForm, 4)
	}
	checkParse(t, head+"stock 1 1 1 1\nfoil 2 1 1 1\nfoil 3 1 1 1\nstock 4 1 1 1\nfoil 5 1 1 1\n", api.ErrForm, 5)
	checkParse(t, head+"foil 2 1 1 1\nstock 4 1 1 1\n", api.ErrForm, 3)
}

func TestParseEnds(t *testing.T) {
	// A line that lacks has the number of lines as its index; one without a line feed is none.
	for _, x := range []struct {
		text string
		line int
	}{
		{"", 0}, {"\n", 0}, {"costs 1 2 3 4", 0}, {"x", 0}, {"costs 1 2 3 4\n", 1}, {"costs 1 2 3 4\nworths 10 1", 1}, {"costs 1 2 3 4\n\n", 1}, {"costs 1 2 3\nworths", 0},
		{head + "stock 1 2 3 4", 2}, {head + "foil 1 2 3 4", 2}, {head + " ", 2}, {head + "\n", 2}, {head + "stock 1 2 3 4\n\n", 3}, {head + "stock 1 2 3 4\nstock", 3}, {exampleText + "\n", 8}, {strings.TrimSuffix(exampleText, "\n"), 7},
	} {
		checkParse(t, x.text, api.ErrForm, x.line)
	}
	stocks, foils := "", ""
	for i := range api.MaxTallies {
		stocks += "stock " + strconv.Itoa(i+1) + " 0 0 0\n"
		foils += "foil " + strconv.Itoa(i+101) + " 0 0 0\n"
	}
	one, two, bad := "stock 99 0 0 0\n", "foil 99 0 0 0\n", "foil 99 0 0\n"
	for _, text := range []string{stocks + one, stocks + foils + two, stocks + one + foils, stocks + one + foils + two, one + stocks + stocks} {
		checkParse(t, head+text, api.ErrLimit, -1)
	}
	for _, text := range []string{"stock 1 0 0 0\nstock 1 0 0 0\n", "stock 1 0 0 0\nfoil 1 0 0 0\n", "foil 1 0 0 0\nfoil 1 1 1 1\n", "stock 1 0 0 0\nstock 2 0 0 0\nfoil 2 0 0 0\n"} {
		checkParse(t, head+text, api.ErrTwice, -1)
	}
	// What is no line comes ahead of all that Check finds.
	checkParse(t, head+stocks+one+bad, api.ErrForm, 2+api.MaxTallies+1)
	checkParse(t, head+"stock 1 0 0 0\nstock 1 0 0 0\nfoil 1 0 0 0", api.ErrForm, 4)
	if b, e, at := tally.Parse(head + stocks + foils); len(b.Stocks) != 16 || len(b.Foils) != 16 || e != api.OK || at != -1 {
		t.Error("P7.2:", b, e, at)
	}
	// The number of bytes comes ahead of all else.
	lines := strings.Repeat("stock 1 0 0 0\n", 300)
	text := (head + lines)[:api.MaxTallyIn]
	checkParse(t, text+"x", api.ErrLimit, -1)
	checkParse(t, strings.Repeat("x", api.MaxTallyIn+1), api.ErrLimit, -1)
	checkParse(t, strings.Repeat("\n", 1000000), api.ErrLimit, -1)
	checkParse(t, strings.Repeat("x", api.MaxTallyIn), api.ErrForm, 0)
	checkParse(t, strings.Repeat("\n", api.MaxTallyIn), api.ErrForm, 0)
	checkParse(t, strings.Repeat(" ", api.MaxTallyIn-1)+"\n", api.ErrForm, 0)
	full := text[:strings.LastIndex(text, "\n")+1]
	long := "costs 1 2 3 4\nworths 10 1\n"
	for len(long) < len(full) {
		long += "stock 1 0 0 0\n"
	}
	// So many lines are right, each alone, but they are too many for Check.
	checkParse(t, long, api.ErrLimit, -1)
	checkParse(t, full+strings.Repeat("x", api.MaxTallyIn-len(full)), api.ErrForm, strings.Count(full, "\n"))
}

// areNumbers is whether some words are numbers within bounds, as many as there are bounds; those of notches can be worn.
func areNumbers(words []string, least, most []int64) bool {
	if len(words) != len(most) {
		return false
	}
	for i, w := range words {
		if w == "-" && least[i] == worn {
			continue
		}
		n, ok := new(big.Int).SetString(w, 10)
		if !ok || n.Cmp(big.NewInt(max(least[i], 0))) < 0 || n.Cmp(big.NewInt(most[i])) > 0 {
			return false
		}
	}
	return true
}

// faultOf is the index of the first line that is none of a text, or -1, as the chapter tells it.
func faultOf(text string) int {
	form := regexp.MustCompile(`^(costs|worths|stock|foil)(( (0|[1-9][0-9]*|-))*)\n$`)
	places, foils := 0, false
	lines := regexp.MustCompile(`[^\n]*\n|[^\n]+$`).FindAllString(text, -1)
	for i, line := range lines {
		m := form.FindStringSubmatch(line)
		if m == nil {
			return i
		}
		words := strings.Fields(m[2])
		var least, most []int64
		switch {
		case i == 0 && m[1] == "costs":
			least, most = make([]int64, 4), slices.Repeat([]int64{1000}, 4)
		case i == 1 && m[1] == "worths" && len(words) >= 1 && len(words) <= 12:
			places = len(words)
			least, most = make([]int64, places), slices.Repeat([]int64{1000}, places)
		case i > 1 && (m[1] == "foil" || m[1] == "stock" && !foils):
			foils = m[1] == "foil"
			least = append([]int64{1, 0}, slices.Repeat([]int64{worn}, places)...)
			most = append([]int64{1 << 40, 9999}, slices.Repeat([]int64{9}, places)...)
		default:
			return i
		}
		if !areNumbers(words, least, most) {
			return i
		}
	}
	if len(lines) < 2 {
		return len(lines)
	}
	return -1
}

// spoilt is a text with some bytes, or words, or lines, changed, lost or doubled.
func (c chance) spoilt(text string) string {
	for range c.from(1, 2) {
		if text == "" {
			return text
		}
		at := c.IntN(len(text))
		switch c.IntN(6) {
		case 0:
			text = text[:at] + text[at+1:]
		case 1:
			text = text[:at] + []string{"0", "1", " ", "\n", "-", "10", "foil", "x", "00"}[c.IntN(9)] + text[at:]
		case 2:
			text = text[:at]
		case 3:
			words := strings.Split(text, " ")
			words[c.IntN(len(words))] = []string{"0", "1000", "-", "1001", "9", "10", "9999", "10000", "1099511627776", "1099511627777", "00", ""}[c.IntN(12)]
			text = strings.Join(words, " ")
		case 4:
			lines := strings.SplitAfter(text, "\n")
			i, k := c.IntN(len(lines)), c.IntN(len(lines))
			lines[i], lines[k] = lines[k], lines[i]
			text = strings.Join(lines, "")
		case 5:
			lines := strings.SplitAfter(text, "\n")
			i := c.IntN(len(lines))
			text = strings.Join(slices.Insert(lines, i, lines[c.IntN(len(lines))]), "")
		}
	}
	return text
}

// TestTexts: Parse of Print is the bundle, Print of what Parse takes is the text; and what is no text has its first fault where the chapter tells it.
func TestTexts(t *testing.T) {
	c := chanceOf(73)
	taken, faults := 0, 0
	for i := range 6000 {
		b := c.small()
		if i%50 == 0 {
			b = c.great()
		}
		text, e := tally.Print(b)
		if again, e2, at := tally.Parse(text); e != api.OK || e2 != api.OK || at != -1 || !equalBundles(again, b) || len(text) > api.MaxTallyIn {
			t.Fatal("P7.11:", text, e, e2, at)
		}
		text = c.spoilt(text)
		at := faultOf(text)
		if at >= 0 && len(text) <= api.MaxTallyIn {
			checkParse(t, text, api.ErrForm, at)
			faults++
			continue
		}
		b, e, at = tally.Parse(text)
		if e != api.OK && (e != api.ErrTwice && e != api.ErrLimit || at != -1) {
			t.Fatalf("P7.2: %q %v %v", text, e, at)
		}
		if e == api.OK {
			again, e := tally.Print(b)
			if again != text || e != api.OK || tally.Check(b) != api.OK {
				t.Fatalf("P7.11: %q %q %v", text, again, e)
			}
			taken++
		}
	}
	if min(taken, faults) < 500 {
		t.Error("too few texts of a sort:", taken, faults)
	}
}

// TestPrintLongest: the longest text of a bundle can be read again.
func TestPrintLongest(t *testing.T) {
	b := api.Bundle{Wrong: api.MaxFee, Worn: api.MaxFee, LostStock: api.MaxFee, LostFoil: api.MaxFee, Worths: slices.Repeat(list(api.MaxNotchIn), api.MaxNotches)}
	for i := range api.MaxTallies {
		b.Stocks = append(b.Stocks, stick(api.MaxID-i, api.MaxPerson, slices.Repeat(list(9), api.MaxNotches)...))
		b.Foils = append(b.Foils, stick(api.MaxID-100-i, api.MaxPerson, slices.Repeat(list(worn), api.MaxNotches)...))
	}
	text, e := tally.Print(b)
	if again, e2, at := tally.Parse(text); e != api.OK || e2 != api.OK || at != -1 || !equalBundles(again, b) {
		t.Error("P7.11:", text, e, e2, at)
	}
}
