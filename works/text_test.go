package works_test

import (
	"regexp"
	"slices"
	"strconv"
	"strings"
	"testing"

	"calx/api"
	"calx/works"
)

// rightCommands are commands of all kinds, many of them at the limits.
func rightCommands() []api.Command {
	l := commands(
		dayOf(0), dayOf(api.MaxDay), weight(1, 0), weight(api.MaxMark, api.MaxDay), where(1, 0, 0), where(api.MaxMark, api.MaxHour, api.MaxDay),
		heat(0, 0, 0), heat(api.MaxFeet, api.MaxHour, api.MaxDay), baked(1, 0, 0, 0, 0), baked(1, 0, 99, 5, 0), baked(api.MaxMark, api.MaxHour, api.MaxHour, api.MaxHeat, api.MaxDay),
		baked(3, api.MaxHour-99, api.MaxHour, 1, 1), baked(3, 50, 149, 1, 1), took(1, 1, 0), took(api.MaxMark, api.MaxMark, api.MaxDay), took(2, 3, 4), barrow(1, 0), barrow(api.MaxMark, api.MaxDay),
		from(1, 0), from(api.MaxMark, api.MaxDay), stands(0), stands(49), grown(0), grown(50),
		write(take(1, 0, 5, 1)), write(move(1, 0, 5, 4, 1)), write(move(1, 0, 0, 5, 1)), write(pour(1, 0, 5, 1, 1)), write(turn(1, 0, 5)), write(spill(1, 0, 5, 1)))
	for _, w := range rightWrits() {
		w.Known = 0
		l = append(l, write(w))
	}
	return l
}

// checkCommand checks whether a command is taken to be formed, and how it is printed.
func checkCommand(t *testing.T, c api.Command) {
	t.Helper()
	ahead := commands(dayOf(0), weight(1, 1))
	want, at, text := api.ErrForm, 2, ""
	if formedCommand(c) {
		want, at, text = api.OK, -1, "day 0\nweight 1 1\n"+lineBy(c)+"\n"
	}
	if e, i := works.Check(api.Script{Site: site(), Commands: append(ahead, c)}); e != want || i != at {
		t.Errorf("P10.6: %+v: %v %v", c, e, i)
	}
	if got, e := works.Print(append(ahead, c)); got != text || e != want {
		t.Errorf("P10.6: %+v: %q %v", c, got, e)
	}
	if want == api.OK {
		if l, e, i := works.Parse(text); !slices.Equal(l, append(ahead, c)) || e != api.OK || i != -1 {
			t.Errorf("P10.11: %q: %v %v %v", text, l, e, i)
		}
		return
	}
	o, _ := works.New(site())
	if r := o.Do(c); !equalReplies(r, api.Reply{Err: api.ErrForm}) || o.Day() != 0 || len(o.Writs()) != 0 {
		t.Errorf("P10.7: %+v: %v", c, r)
	}
	if r := works.Answer(site(), nil, c); !equalReplies(r, api.Reply{Err: api.ErrForm}) {
		t.Errorf("P10.9: %+v: %v", c, r)
	}
	if e := works.CheckReply(site(), nil, c, api.Reply{Err: api.ErrForm}); e != api.ErrForm {
		t.Errorf("P10.10: %+v: %v", c, e)
	}
}

// TestFormed: each number of a command of each kind is made each one of many others.
func TestFormed(t *testing.T) {
	for _, c := range append(rightCommands(), api.Command{}, api.Command{Kind: 12}, api.Command{Kind: -1}, api.Command{Kind: api.CoWrit}, write(stir(1, api.Stir{}))) {
		checkCommand(t, c)
		for _, at := range numbersIn(&c) {
			kept := at.Int()
			for _, n := range edges() {
				at.SetInt(int64(n))
				checkCommand(t, c)
			}
			at.SetInt(kept)
		}
	}
	for _, c := range rightCommands() {
		if e, at := works.Check(api.Script{Site: site(), Commands: commands(c)}); e != api.OK || at != -1 {
			t.Error("P10.6:", c, e, at)
		}
	}
}

// TestFormedMuch: several numbers of a command are made others at once.
func TestFormedMuch(t *testing.T) {
	c := chanceOf(3)
	base := rightCommands()
	few := list(0, 1, 2, 3, 4, 5, 6, 11, 100, -1)
	right := 0
	for range 40000 {
		x := base[c.IntN(len(base))]
		for range c.IntN(4) {
			places := numbersIn(&x)
			places[c.IntN(len(places))].SetInt(int64(few[c.IntN(len(few))]))
		}
		checkCommand(t, x)
		if formedCommand(x) {
			right++
		}
	}
	if right < 8000 || right > 32000 {
		t.Error("P10.6: too few are right, or wrong:", right)
	}
}

// TestWords: the line of each sort of commands, word by word.
func TestWords(t *testing.T) {
	for line, c := range map[string]api.Command{
		"day 3":                  {Kind: api.CoDay, A: 3},
		"weight 3 4":             {Kind: api.CoWeight, A: 3, Known: 4},
		"where 3 5 4":            {Kind: api.CoWhere, A: 3, B: 5, Known: 4},
		"heat 3 5 4":             {Kind: api.CoHeat, A: 3, B: 5, Known: 4},
		"baked 3 5 6 7 4":        {Kind: api.CoBaked, A: 3, B: 5, C: 6, D: 7, Known: 4},
		"took 3 5 4":             {Kind: api.CoTook, A: 3, B: 5, Known: 4},
		"barrow 3 4":             {Kind: api.CoBarrow, A: 3, Known: 4},
		"from 3 4":               {Kind: api.CoFrom, A: 3, Known: 4},
		"stands 3":               {Kind: api.CoStands, A: 3},
		"grown 3":                {Kind: api.CoGrown, A: 3},
		"load 9 1 2 3":           {Kind: api.CoWrit, Writ: api.Writ{ID: 9, Kind: 1, Load: api.Load{Hour: 1, Weight: api.Span{Lo: 2, Hi: 3}}}},
		"draw 9 1 2 3":           {Kind: api.CoWrit, Writ: api.Writ{ID: 9, Kind: 2, Draw: api.Draw{Hour: 1, Weight: api.Span{Lo: 2, Hi: 3}}}},
		"weigh 9 1 2 3 4 5":      {Kind: api.CoWrit, Writ: api.Writ{ID: 9, Kind: 3, Weigh: api.Weigh{Kind: 1, From: 2, To: 3, Sum: api.Span{Lo: 4, Hi: 5}}}},
		"weigh 9 3 2 0 4 5":      {Kind: api.CoWrit, Writ: api.Writ{ID: 9, Kind: 3, Weigh: api.Weigh{Kind: 3, From: 2, Sum: api.Span{Lo: 4, Hi: 5}}}},
		"look 9 1 2 3 4":         {Kind: api.CoWrit, Writ: api.Writ{ID: 9, Kind: 4, Look: api.Look{At: api.Spot{Foot: 1, Hour: 2}, Heat: api.Span{Lo: 3, Hi: 4}}}},
		"pour 9 1 2 3 4":         {Kind: api.CoWrit, Writ: api.Writ{ID: 9, Kind: 5, Stir: api.Stir{Kind: 1, Day: 1, Pit: 2, ID: 3, Amount: 4}}},
		"take 9 1 2 4":           {Kind: api.CoWrit, Writ: api.Writ{ID: 9, Kind: 5, Stir: api.Stir{Kind: 2, Day: 1, Pit: 2, Amount: 4}}},
		"turn 9 1 2":             {Kind: api.CoWrit, Writ: api.Writ{ID: 9, Kind: 5, Stir: api.Stir{Kind: 3, Day: 1, Pit: 2}}},
		"move 9 1 2 3 4":         {Kind: api.CoWrit, Writ: api.Writ{ID: 9, Kind: 5, Stir: api.Stir{Kind: 4, Day: 1, Pit: 2, To: 3, Amount: 4}}},
		"spill 9 1 2 4":          {Kind: api.CoWrit, Writ: api.Writ{ID: 9, Kind: 5, Stir: api.Stir{Kind: 5, Day: 1, Pit: 2, Amount: 4}}},
		"back 9 8":               {Kind: api.CoWrit, Writ: api.Writ{ID: 9, Kind: 6, Ref: 8}},
		"weight 1048576 682":     {Kind: api.CoWeight, A: 1048576, Known: 682},
		"load 1 16384 0 1048576": {Kind: api.CoWrit, Writ: api.Writ{ID: 1, Kind: 1, Load: api.Load{Hour: 16384, Weight: api.Span{Hi: 1048576}}}},
	} {
		if text, e := works.Print(commands(c)); text != line+"\n" || e != api.OK {
			t.Errorf("P10.6: %q %q %v", line, text, e)
		}
		if l, e, at := works.Parse(line + "\n"); !slices.Equal(l, commands(c)) || e != api.OK || at != -1 {
			t.Errorf("P10.6: %q %v %v %v", line, l, e, at)
		}
	}
}

// grammar is what each line looks like, whatever it says.
var grammar = regexp.MustCompile(`^[a-z]+( (0|[1-9][0-9]{0,9}))+$`)

// commandBy returns the command of a line, if it is that of a formed one.
func commandBy(line string) (api.Command, bool) {
	if !grammar.MatchString(line) {
		return api.Command{}, false
	}
	words := strings.Split(line, " ")
	n := make([]int, 7)
	for i, word := range words[1:] {
		if i < len(n) {
			n[i], _ = strconv.Atoi(word)
		}
	}
	known := map[string]struct {
		many int
		c    api.Command
	}{
		"day": {1, dayOf(n[0])}, "weight": {2, weight(n[0], n[1])}, "where": {3, where(n[0], n[1], n[2])}, "heat": {3, heat(n[0], n[1], n[2])},
		"baked": {5, baked(n[0], n[1], n[2], n[3], n[4])}, "took": {3, took(n[0], n[1], n[2])}, "barrow": {2, barrow(n[0], n[1])}, "from": {2, from(n[0], n[1])},
		"stands": {1, stands(n[0])}, "grown": {1, grown(n[0])}, "load": {4, write(load(n[0], n[1], n[2], n[3]))}, "draw": {4, write(draw(n[0], n[1], n[2], n[3]))},
		"weigh": {6, write(weigh(n[0], n[1], n[2], n[3], n[4], n[5]))}, "look": {5, write(look(n[0], n[1], n[2], n[3], n[4]))},
		"pour": {5, write(pour(n[0], n[1], n[2], n[3], n[4]))}, "take": {4, write(take(n[0], n[1], n[2], n[3]))}, "turn": {3, write(turn(n[0], n[1], n[2]))},
		"move": {5, write(move(n[0], n[1], n[2], n[3], n[4]))}, "spill": {4, write(spill(n[0], n[1], n[2], n[3]))}, "back": {2, write(back(n[0], n[1]))},
	}
	x, ok := known[words[0]]
	if !ok || len(words) != 1+x.many || !formedCommand(x.c) {
		return api.Command{}, false
	}
	return x.c, true
}

// checkText checks what Parse returns for a text.
func checkText(t *testing.T, text string) api.Errno {
	t.Helper()
	lines := strings.SplitAfter(text, "\n")
	var want []api.Command
	wanted, index := api.OK, -1
	for i, line := range lines {
		c, ok := commandBy(strings.TrimSuffix(line, "\n"))
		if i == len(lines)-1 && line == "" {
			break
		}
		if !ok || i == len(lines)-1 {
			want, wanted, index = nil, api.ErrForm, i
			break
		}
		want = append(want, c)
	}
	if strings.Count(text, "\n") > api.MaxScript {
		want, wanted, index = nil, api.ErrLimit, -1
	}
	l, e, at := works.Parse(text)
	if !slices.Equal(l, want) || e != wanted || at != index {
		t.Errorf("P10.6: %q: %v %v %v, not %v %v", text, l, e, at, wanted, index)
	}
	if again, f := works.Print(l); e == api.OK && (again != text || f != api.OK) {
		t.Errorf("P10.11: %q: %q %v", text, again, f)
	}
	return e
}

func TestParseWrong(t *testing.T) {
	for _, line := range []string{
		"", " ", "day", "day ", "day  1", " day 1", "day 1 ", "day 1 2", "day 1\r", "day\t1", "Day 1", "days 1", "da 1", "day1", "1", "1 day", "day -1", "day +1", "day 01", "day 00", "day 1.0", "day 0x1", "day 1_0", "day ٣", "day 683", "day x", "day 1x", "day 18446744073709551617", "day 99999999999999999999999", "day 4294967297",
		"write 1", "weight", "weight 1", "weight 1 2 3", "weight 0 1", "weight 1 683", "weight 1048577 1", "weight 1  2", "where 1 2", "where 1 16385 1", "heat 61 1 1", "heat -0 1 1",
		"baked 1 5 4 3 2", "baked 1 0 100 3 2", "baked 1 2 3 1501 1", "baked 1 16384 16385 1 1", "baked 1 2 3 4", "took 1 0 1", "took 0 1 1", "barrow 0 1", "from 0 1", "stands 50", "grown 51", "stands 1 1", "grown",
		"load 0 1 2 3", "load 1 16385 2 3", "load 1 1 3 2", "load 1 1 2 1048577", "load 1 1 2", "load 1 1 2 3 4", "draw 1048577 1 2 3", "weigh 1 0 2 3 4 5", "weigh 1 4 2 3 4 5", "weigh 1 3 2 3 4 5", "weigh 1 1 0 3 4 5", "weigh 1 2 2 0 4 5", "weigh 1 3 16385 0 4 5", "weigh 1 1 2 3 5 4", "weigh 1 1 2 3 4 1048577",
		"look 1 61 2 3 4", "look 1 1 2 4 3", "look 1 1 2 3 1501", "pour 1 683 2 3 4", "pour 1 1 6 3 4", "pour 1 1 2 0 4", "pour 1 1 2 3 0", "pour 1 1 2 3 1001", "take 1 1 2 0", "take 1 1 2 3 4", "turn 1 1 2 3", "turn 1 1 6", "move 1 1 2 2 4", "move 1 1 2 6 4", "move 1 1 2 3 0", "spill 1 1 2 1001", "back 1 0", "back 0 1", "back 1", "\x00", "day\x001", "day 1\x00", "täg 1", "stir 1 1 1", "look", "move",
	} {
		for at := range 3 {
			text := strings.Repeat("day 0\n", at) + line + "\n"
			if l, e, i := works.Parse(text + "day 1\n"); len(l) != 0 || e != api.ErrForm || i != at {
				t.Errorf("P10.6: %q: %v %v %v", text, l, e, i)
			}
			checkText(t, text+"x\n")
		}
	}
}

// TestParseEnds: the last line, and how many there are.
func TestParseEnds(t *testing.T) {
	for _, x := range []struct {
		text string
		want api.Errno
		at   int
	}{
		{"", api.OK, -1}, {"day 1\n", api.OK, -1}, {"day 1", api.ErrForm, 0}, {"day 1\nday 2", api.ErrForm, 1}, {"day 1\n\n", api.ErrForm, 1}, {"\n", api.ErrForm, 0}, {"\nday 1\n", api.ErrForm, 0}, {"day 1\n ", api.ErrForm, 1}, {"day 1\nx", api.ErrForm, 1}, {"x\nday 1", api.ErrForm, 0},
		{strings.Repeat("day 1\n", 80), api.OK, -1}, {strings.Repeat("day 1\n", 80) + "day 1", api.ErrForm, 80}, {strings.Repeat("day 1\n", 81), api.ErrLimit, -1}, {strings.Repeat("day 1\n", 80) + "\n", api.ErrLimit, -1},
		{strings.Repeat("\n", 80), api.ErrForm, 0}, {strings.Repeat("\n", 81), api.ErrLimit, -1}, {strings.Repeat("x\n", 100000), api.ErrLimit, -1}, {strings.Repeat("day ", 100000), api.ErrForm, 0}, {strings.Repeat(" ", 1000000) + "\n", api.ErrForm, 0}, {"day 1\nday " + strings.Repeat("1 ", 100000) + "\n", api.ErrForm, 1}, {strings.Repeat("day 1\n", 79) + strings.Repeat("1", 100000) + "\n", api.ErrForm, 79},
	} {
		if _, e, at := works.Parse(x.text); e != x.want || at != x.at {
			t.Errorf("P10.6: %.40q: %v %v", x.text, e, at)
		}
		checkText(t, x.text)
	}
}

// digits is a number in a text.
var digits = regexp.MustCompile(`[0-9]+`)

// edited returns a text that is a little different.
func (c chance) edited(text string) string {
	at := c.IntN(len(text) + 1)
	some := []string{" ", "\n", "0", "1", "9", "-", "day", "d", "16384", "\r", "x", " 0", "0 ", "1\n", ""}
	next := some[c.IntN(len(some))]
	switch c.IntN(4) {
	case 0:
		return text[:at] + next + text[at:]
	case 1:
		return text[:at] + next + text[min(len(text), at+1):]
	}
	// A word becomes a number that is near the edge.
	words := digits.FindAllStringIndex(text, -1)
	if len(words) == 0 {
		return text + next
	}
	word := words[c.IntN(len(words))]
	near := edges()
	return text[:word[0]] + strconv.Itoa(near[c.IntN(len(near))]) + text[word[1]:]
}

func TestParseMuch(t *testing.T) {
	c := chanceOf(4)
	base := rightCommands()
	found := map[api.Errno]int{}
	for range 10000 {
		text := ""
		for range c.IntN(6) {
			text += lineBy(base[c.IntN(len(base))]) + "\n"
		}
		found[checkText(t, text)]++
		for range c.from(1, 3) {
			text = c.edited(text)
			found[checkText(t, text)]++
		}
	}
	if found[api.OK] < 5000 || found[api.ErrForm] < 5000 {
		t.Error("P10.6: too few cases:", found)
	}
}

// TestScripts: the errors of Check and Print, one ahead of the others.
func TestScripts(t *testing.T) {
	wrong, right := api.Command{}, dayOf(1)
	for _, x := range []struct {
		l    []api.Command
		want api.Errno
		at   int
	}{
		{nil, api.OK, -1},
		{slices.Repeat(commands(right), 80), api.OK, -1},
		{slices.Repeat(commands(right), 81), api.ErrLimit, -1},
		{slices.Repeat(commands(wrong), 81), api.ErrLimit, -1},
		{make([]api.Command, 100000), api.ErrLimit, -1},
		{slices.Repeat(commands(wrong), 80), api.ErrForm, 0},
		{append(slices.Repeat(commands(right), 79), wrong), api.ErrForm, 79},
		{commands(right, wrong, right, wrong), api.ErrForm, 1},
		// Whether a command can be done does not matter.
		{commands(dayOf(5), dayOf(1), write(back(1, 1)), write(back(1, 1)), write(turn(3, 0, 5)), weight(9, 9)), api.OK, -1},
	} {
		if e, at := works.Check(api.Script{Site: site(), Commands: x.l}); e != x.want || at != x.at {
			t.Error("P10.6:", len(x.l), e, at)
		}
		if text, e := works.Print(x.l); e != x.want || e != api.OK && text != "" {
			t.Error("P10.6:", len(x.l), text, e)
		}
		for _, s := range wrongSites() {
			if e, at := works.Check(api.Script{Site: s, Commands: x.l}); e != api.ErrArg || at != -1 {
				t.Error("P10.6:", s, e, at)
			}
		}
	}
}
