package fire_test

import (
	"math"
	"math/rand/v2"
	"slices"
	"testing"

	"calx/api"
	"calx/fire"
)

// still is a path that stays at a foot.
func still(foot, hour, steps int) []api.Spot {
	var l []api.Spot
	for i := range steps {
		l = append(l, spot(foot, hour+i))
	}
	return l
}

// sunk is how something burnt by heats, each number counted by itself.
func sunk(heats []int, need int) api.Burn {
	var b api.Burn
	for i := range heats {
		row := 0
		for row < len(heats)-i && heats[i+row] >= need {
			row++
		}
		if row > 0 {
			b.Hours++
			b.Sum += heats[i] - need
		}
		b.Row = max(b.Row, row)
	}
	return b
}

// steps is the numbers within spans; false unless they are the fewest, in order.
func steps(l []api.Span) ([]int, bool) {
	var all []int
	for i, x := range l {
		if x.Lo > x.Hi || i > 0 && x.Lo <= l[i-1].Hi+1 {
			return nil, false
		}
		for j := x.Lo; j <= x.Hi; j++ {
			all = append(all, j)
		}
	}
	return all, true
}

func TestCheckPath(t *testing.T) {
	long := still(5, 100, api.MaxSteps+1)
	for _, x := range []struct {
		name string
		l    []api.Spot
		want api.Errno
	}{
		{"no step", nil, api.ErrArg},
		{"no step, but memory for some", long[:0], api.ErrArg},
		{"one step", long[:1], api.OK},
		{"all steps", long[:api.MaxSteps], api.OK},
		{"a step too many", long, api.ErrLimit},
		{"too many ahead of wrong ones", make([]api.Spot, api.MaxSteps+1), api.ErrLimit},
		{"at the same hour", []api.Spot{{Hour: 1}, {Hour: 1}}, api.ErrArg},
		{"backwards", []api.Spot{{Hour: 1}, {Hour: 0}}, api.ErrArg},
		{"an hour left out", []api.Spot{{Hour: 1}, {Hour: 3}}, api.ErrArg},
		{"a wrong hour at the end", []api.Spot{{Hour: 1}, {Hour: 2}, {Hour: 4}}, api.ErrArg},
		{"far up and down", []api.Spot{{Foot: 60, Hour: 1}, {Foot: 0, Hour: 2}, {Foot: 60, Hour: 3}}, api.OK},
		{"the last hours", []api.Spot{{Hour: api.MaxHour - 1}, {Hour: api.MaxHour}}, api.OK},
		{"beyond the last hour", []api.Spot{{Hour: api.MaxHour}, {Hour: api.MaxHour + 1}}, api.ErrArg},
		{"ahead of the first hour", []api.Spot{{Hour: -1}, {Hour: 0}}, api.ErrArg},
		{"a foot too high", []api.Spot{{Foot: 60, Hour: 1}, {Foot: 61, Hour: 2}}, api.ErrArg},
		{"a foot below 0", []api.Spot{{Foot: -1, Hour: 1}}, api.ErrArg},
		{"the greatest hour of all", []api.Spot{{Hour: math.MaxInt}, {Hour: math.MinInt}}, api.ErrArg},
	} {
		if e := fire.CheckPath(x.l); e != x.want {
			t.Error("P2.7:", x.name, e)
		}
	}
}

// TestPaths: what is told of a path is so in all fields, and each end is so in one.
func TestPaths(t *testing.T) {
	many(t, 31, func(t *testing.T, r *rand.Rand, f api.Fire, path []api.Spot, s fields) {
		if len(s.all) == 0 {
			checkPathClash(t, f, path)
			return
		}
		least, most := s.ends(path[1]).Lo, s.ends(path[1]).Hi
		for _, need := range []int{0, max(least-1, 0), least, (least + most) / 2, most, min(most+1, api.MaxHeat), api.MaxHeat} {
			checkBurnt(t, f, path, need, s)
			checkRows(t, f, path, need, s)
		}
	})
}

func checkPathClash(t *testing.T, f api.Fire, path []api.Spot) {
	low, high, e := fire.Burnt(f, path, 5)
	if e != api.ErrClash || low != (api.Burn{}) || high != (api.Burn{}) {
		t.Fatal("P2.7:", low, high, e)
	}
	if l, e := fire.Surely(f, path, 5); e != api.ErrClash || l != nil {
		t.Fatal("P2.8:", l, e)
	}
	if l, e := fire.Possibly(f, path, 5); e != api.ErrClash || l != nil {
		t.Fatal("P2.8:", l, e)
	}
}

func checkBurnt(t *testing.T, f api.Fire, path []api.Spot, need int, s fields) {
	low, high, e := fire.Burnt(f, path, need)
	hours := s.among(func(field []int) int { return sunk(s.of(field, path...), need).Hours })
	row := s.among(func(field []int) int { return sunk(s.of(field, path...), need).Row })
	sum := s.among(func(field []int) int { return sunk(s.of(field, path...), need).Sum })
	if e != api.OK || low != (api.Burn{Hours: hours.Lo, Row: row.Lo, Sum: sum.Lo}) || high != (api.Burn{Hours: hours.Hi, Row: row.Hi, Sum: sum.Hi}) {
		t.Fatal("P2.7, P2.14:", need, low, high, e, hours, row, sum)
	}
}

func checkRows(t *testing.T, f api.Fire, path []api.Spot, need int, s fields) {
	var surely, possibly []int
	for i, at := range path {
		ends := s.ends(at)
		if ends.Lo >= need {
			surely = append(surely, i)
		}
		if ends.Hi >= need {
			possibly = append(possibly, i)
		}
	}
	l, e := fire.Surely(f, path, need)
	if all, fewest := steps(l); e != api.OK || !fewest || !slices.Equal(all, surely) {
		t.Fatal("P2.8, P2.14:", need, l, e, surely)
	}
	l, e = fire.Possibly(f, path, need)
	if all, fewest := steps(l); e != api.OK || !fewest || !slices.Equal(all, possibly) {
		t.Fatal("P2.8, P2.14:", need, l, e, possibly)
	}
}

func TestPathsOfExample(t *testing.T) {
	path := still(10, 14, 3)
	low, high, e := fire.Burnt(example(), path, 900)
	if e != api.OK || low != (api.Burn{}) || high != (api.Burn{Hours: 3, Row: 3, Sum: 420}) {
		t.Error("P2.7:", low, high, e)
	}
	if l, e := fire.Surely(example(), path, 840); e != api.OK || !slices.Equal(l, []api.Span{span(1, 2)}) {
		t.Error("P2.8:", l, e)
	}
	if l, e := fire.Possibly(example(), path, 1040); e != api.OK || !slices.Equal(l, []api.Span{span(1, 2)}) {
		t.Error("P2.8:", l, e)
	}
	// At 20 degrees an hour ahead of the look, and 10 behind it, the low ends of the hours 16 to 25 rise from 870 to 950, and fall to 900.
	path = still(10, 16, 10)
	low, _, e = fire.Burnt(example(), path, 920)
	if e != api.OK || low != (api.Burn{Hours: 5, Row: 5, Sum: 10 + 30 + 20 + 10}) {
		t.Error("P2.7:", low, e)
	}
	if l, e := fire.Surely(example(), path, 0); e != api.OK || !slices.Equal(l, []api.Span{span(0, 9)}) {
		t.Error("P2.8: all steps:", l, e)
	}
	if l, e := fire.Possibly(example(), path, api.MaxHeat); e != api.OK || len(l) != 0 {
		t.Error("P2.8: no step:", l, e)
	}
}

// TestRows: rows apart from each other, of different lengths, at both ends of the path, with each heat known.
func TestRows(t *testing.T) {
	f := api.Fire{Rise: 200, Fall: 200}
	path := still(7, 40, 12)
	for i, heat := range []int{900, 700, 800, 900, 850, 700, 799, 800, 850, 650, 600, 800} {
		f.Looks = append(f.Looks, api.Look{ID: 50 - i, At: path[i], Heat: span(heat, heat)})
	}
	want := []api.Span{span(0, 0), span(2, 4), span(7, 8), span(11, 11)}
	if l, e := fire.Surely(f, path, 800); e != api.OK || !slices.Equal(l, want) {
		t.Error("P2.8:", l, e)
	}
	if l, e := fire.Possibly(f, path, 800); e != api.OK || !slices.Equal(l, want) {
		t.Error("P2.8:", l, e)
	}
	low, high, e := fire.Burnt(f, path, 800)
	if b := (api.Burn{Hours: 7, Row: 3, Sum: 100 + 100 + 50 + 50}); e != api.OK || low != b || high != b {
		t.Error("P2.7:", low, high, e)
	}
}

// TestPathErrors: the fire, then the path, then the need, then looks that do not agree.
func TestPathErrors(t *testing.T) {
	for name, call := range map[string]func(f api.Fire, path []api.Spot, need int) api.Errno{
		"Burnt":    func(f api.Fire, l []api.Spot, need int) api.Errno { _, _, e := fire.Burnt(f, l, need); return e },
		"Surely":   func(f api.Fire, l []api.Spot, need int) api.Errno { _, e := fire.Surely(f, l, need); return e },
		"Possibly": func(f api.Fire, l []api.Spot, need int) api.Errno { _, e := fire.Possibly(f, l, need); return e },
	} {
		path, long := still(10, 14, 3), still(10, 14, api.MaxSteps+1)
		for _, x := range []struct {
			name string
			f    api.Fire
			path []api.Spot
			need int
			want api.Errno
		}{
			{"all is well", example(), path, 900, api.OK},
			{"the longest path", example(), long[1:], 900, api.OK},
			{"need 0", example(), path, 0, api.OK},
			{"need greatest", example(), path, api.MaxHeat, api.OK},
			{"the fire first", wrong(), long, -1, api.ErrLimit},
			{"the fire ahead of the path", api.Fire{Rise: -1}, long, 900, api.ErrArg},
			{"no path", example(), nil, 900, api.ErrArg},
			{"too long a path", example(), long, 900, api.ErrLimit},
			{"the path ahead of the need", example(), long, -1, api.ErrLimit},
			{"the path ahead of a clash", broken(), long, 900, api.ErrLimit},
			{"a wrong path ahead of a clash", broken(), []api.Spot{{}, {}}, 900, api.ErrArg},
			{"need below 0", example(), path, -1, api.ErrArg},
			{"need too great", example(), path, api.MaxHeat + 1, api.ErrArg},
			{"need ahead of a clash", broken(), path, -1, api.ErrArg},
			{"a clash", broken(), path, 900, api.ErrClash},
		} {
			if e := call(x.f, x.path, x.need); e != x.want {
				t.Error("P2.7, P2.8:", name, x.name, e)
			}
		}
	}
}
