package cart_test

import (
	"math"
	"math/rand/v2"
	"slices"
	"testing"

	"calx/api"
	"calx/cart"
)

// arrives is when one is at the end of a track who comes to it in an hour, or -1.
func arrives(t api.Track, hour int) int {
	for hour <= api.MaxHour && isShut(t, hour) {
		hour++
	}
	if hour+t.Long > api.MaxHour {
		return -1
	}
	return hour + t.Long
}

// proves is whether times prove that no journey is sooner, as the chapter tells it.
func proves(r api.Roads, from, hour int, t api.Times) bool {
	if len(t.Hours) != r.Places {
		return false
	}
	for _, l := range t.Hours {
		if len(l) != api.MaxPurse+1 {
			return false
		}
		for i, x := range l {
			if x < -1 || x > api.MaxHour {
				return false
			}
			for _, y := range l[:i] {
				if y != -1 && (x == -1 || x > y) {
					return false
				}
			}
		}
	}
	for _, x := range t.Hours[from] {
		if x == -1 || x > hour {
			return false
		}
	}
	for _, x := range r.Tracks {
		for sum, h := range t.Hours[x.From] {
			if h == -1 || sum+x.Toll > api.MaxPurse || arrives(x, h) == -1 {
				continue
			}
			if told := t.Hours[x.To][sum+x.Toll]; told == -1 || told > arrives(x, h) {
				return false
			}
		}
	}
	return true
}

// changedTimes is times in which some numbers are others.
func changedTimes(r *rand.Rand, t api.Times) api.Times {
	t = cloneTimes(t)
	l := t.Hours[r.IntN(len(t.Hours))]
	from := r.IntN(len(l))
	to := from + 1 + r.IntN(len(l)-from)
	if r.IntN(2) == 0 {
		to = len(l)
	}
	by := []int{-1, 1, -20, 20}[r.IntN(4)]
	for i := from; i < to; i++ {
		switch {
		case l[i] == -1:
			l[i] = []int{-1, 0, 50}[r.IntN(3)]
		case r.IntN(200) == 0:
			l[i] = -1
		default:
			l[i] = max(l[i]+by, -1)
		}
	}
	return t
}

func TestExampleTimes(t *testing.T) {
	r := exampleRoads()
	times, e := cart.Earliest(r, 0, 4)
	if e != api.OK || len(times.Hours) != 3 {
		t.Fatal("P5.3:", times, e)
	}
	for place, want := range [][][2]int{{{0, 4}}, {{0, 9}}, {{0, 26}, {2, 17}, {6, 13}}} {
		l := times.Hours[place]
		if len(l) != api.MaxPurse+1 {
			t.Fatal("P5.3:", place, l)
		}
		for sum, x := range l {
			for len(want) > 1 && want[1][0] <= sum {
				want = want[1:]
			}
			if x != want[0][1] {
				t.Error("P5.3:", place, sum, x)
			}
		}
	}
	if times, e := cart.Earliest(r, 2, api.MaxHour); e != api.OK || times.Hours[0][60] != -1 || times.Hours[1][0] != -1 || times.Hours[2][0] != api.MaxHour || times.Hours[2][60] != api.MaxHour {
		t.Error("P5.3:", times, e)
	}
}

func TestTimes(t *testing.T) {
	many(t, 4, 600, func(t *testing.T, r *rand.Rand, x trip, c chart) {
		times, e := cart.Earliest(x.roads, x.from, x.hour)
		if e != api.OK || len(times.Hours) != x.roads.Places {
			t.Fatal("P5.3:", times, e)
		}
		for place, l := range times.Hours {
			if len(l) != api.MaxPurse+1 {
				t.Fatal("P5.3:", l)
			}
			for sum, h := range l {
				if h != c.earliest(place, sum) {
					t.Fatal("P5.3: Earliest:", place, sum, h, c.earliest(place, sum))
				}
			}
		}
		if e := cart.CheckTimes(x.roads, x.from, x.hour, times); e != api.OK || !proves(x.roads, x.from, x.hour, times) {
			t.Fatal("P5.12:", e)
		}
	})
}

// TestOtherTimes: times that CheckTimes accepts, whether they are attained or not, are not later than any journey.
func TestOtherTimes(t *testing.T) {
	accepted, refused, lower := 0, 0, 0
	many(t, 5, 600, func(t *testing.T, r *rand.Rand, x trip, c chart) {
		best, _ := cart.Earliest(x.roads, x.from, x.hour)
		before, _ := cart.Earliest(x.roads, x.from, max(x.hour-1-r.IntN(5), 0))
		after, _ := cart.Earliest(x.roads, x.from, min(x.hour+1, api.MaxHour))
		tries := []api.Times{before, after}
		if n := len(x.roads.Tracks); n > 0 {
			less, _ := cart.Earliest(without(x.roads, x.roads.Tracks[r.IntN(n)].ID), x.from, x.hour)
			tries = append(tries, less)
		}
		for range 8 {
			tries = append(tries, changedTimes(r, best), changedTimes(r, before))
		}
		for _, told := range tries {
			e := cart.CheckTimes(x.roads, x.from, x.hour, told)
			if (e == api.OK) != proves(x.roads, x.from, x.hour, told) || e != api.OK && e != api.ErrProof {
				t.Fatal("P5.3: CheckTimes:", told, e)
			}
			if e != api.OK {
				refused++
				continue
			}
			accepted++
			for place, l := range told.Hours {
				for sum, h := range l {
					if y := c.earliest(place, sum); y != -1 && (h == -1 || h > y) {
						t.Fatal("P5.12: a journey is sooner than accepted times:", place, sum, h, y)
					} else if h != y {
						lower++
					}
				}
			}
		}
	})
	if min(accepted, refused, lower) < 400 {
		t.Error("too few times of a sort:", accepted, refused, lower)
	}
}

func TestCheckTimes(t *testing.T) {
	r := exampleRoads()
	good, _ := cart.Earliest(r, 0, 4)
	for _, x := range []struct {
		name   string
		change func(l [][]int) [][]int
		want   api.Errno
	}{
		{"none", func(l [][]int) [][]int { return l }, api.OK},
		{"no list", func(l [][]int) [][]int { return nil }, api.ErrProof},
		{"a list too few", func(l [][]int) [][]int { return l[:2] }, api.ErrProof},
		{"a list too many", func(l [][]int) [][]int { return append(l, l[2]) }, api.ErrProof},
		{"a sum too few", func(l [][]int) [][]int { l[2] = l[2][:60]; return l }, api.ErrProof},
		{"a sum too many", func(l [][]int) [][]int { l[2] = append(l[2], 13); return l }, api.ErrProof},
		{"an empty list", func(l [][]int) [][]int { l[0] = nil; return l }, api.ErrProof},
		{"below -1", func(l [][]int) [][]int { l[2][60] = -2; return l }, api.ErrProof},
		{"far below", func(l [][]int) [][]int { l[2][60] = math.MinInt; return l }, api.ErrProof},
		{"all 0", func(l [][]int) [][]int { return fill(l, 0) }, api.OK},
		{"all -1", func(l [][]int) [][]int { return fill(l, -1) }, api.ErrProof},
		{"all as late as can be", func(l [][]int) [][]int { return fill(l, api.MaxHour) }, api.ErrProof},
		{"later than can be", func(l [][]int) [][]int { l[2][0] = api.MaxHour + 1; return l }, api.ErrProof},
		{"far later", func(l [][]int) [][]int { l[2][0] = math.MaxInt; return l }, api.ErrProof},
		{"one sooner at an end", func(l [][]int) [][]int { l[2][60] = 12; return l }, api.OK},
		{"all sooner at an end", func(l [][]int) [][]int { l[2] = slices.Repeat([]int{0}, 61); return l }, api.OK},
		{"one later", func(l [][]int) [][]int { l[2][0] = 27; return l }, api.ErrProof},
		{"-1 first, though there is a journey", func(l [][]int) [][]int { l[2][0] = -1; return l }, api.ErrProof},
		{"-1 last", func(l [][]int) [][]int { l[2][60] = -1; return l }, api.ErrProof},
		{"more with more pence", func(l [][]int) [][]int { l[2][30] = 12; return l }, api.ErrProof},
		{"the beginning sooner", func(l [][]int) [][]int { l[0][60] = 3; return l }, api.OK},
		{"the beginning sooner, and what follows too", func(l [][]int) [][]int { l[0] = slices.Repeat([]int{3}, 61); return l }, api.ErrProof},
		{"the beginning later", func(l [][]int) [][]int { l[0][0] = 5; return l }, api.ErrProof},
		{"the beginning never", func(l [][]int) [][]int { l[0][0] = -1; return l }, api.ErrProof},
		{"between sooner", func(l [][]int) [][]int { l[1][60] = 8; return l }, api.OK},
		{"between so soon that the track is open", func(l [][]int) [][]int { l[1][60] = 7; return l }, api.ErrProof},
		{"between later", func(l [][]int) [][]int { l[1][0] = 10; return l }, api.ErrProof},
	} {
		told := api.Times{Hours: x.change(cloneTimes(good).Hours)}
		if x.name == "the beginning sooner" {
			// With 60 pence one comes to the place 1 by 8 then.
			told.Hours[1][60] = 8
		}
		if e := cart.CheckTimes(r, 0, 4, told); e != x.want {
			t.Error("P5.3:", x.name, e)
		}
		if (x.want == api.OK) != proves(r, 0, 4, told) {
			t.Error("P5.3: by hand:", x.name)
		}
	}
	// A track that nobody can come to the end of asks for nothing.
	end := roads(2, track(1, 0, 1, 5, 0), track(2, 1, 0, 1, 0, span(api.MaxHour-3, api.MaxHour)))
	never := api.Times{Hours: [][]int{slices.Repeat([]int{api.MaxHour - 4}, 61), slices.Repeat([]int{-1}, 61)}}
	if e := cart.CheckTimes(end, 0, api.MaxHour-4, never); e != api.OK {
		t.Error("P5.3:", e)
	}
	if e := cart.CheckTimes(end, 0, api.MaxHour-5, never); e != api.ErrProof {
		t.Error("P5.3:", e)
	}
	never.Hours[1] = slices.Repeat([]int{api.MaxHour - 3}, 61)
	if e := cart.CheckTimes(end, 0, api.MaxHour-4, never); e != api.OK {
		t.Error("P5.3:", e)
	}
}

// fill is lists with one number.
func fill(l [][]int, x int) [][]int {
	for i := range l {
		l[i] = slices.Repeat([]int{x}, len(l[i]))
	}
	return l
}

// TestGreatTimes: roads with all places and tracks there can be, over a season.
func TestGreatTimes(t *testing.T) {
	fronts := 0
	for seed := range uint64(12) {
		x := great(seed)
		c := chartOf(x.roads, x.from, x.hour)
		times, e := cart.Earliest(x.roads, x.from, x.hour)
		if e != api.OK || len(times.Hours) != api.MaxPlaces {
			t.Fatal("P5.3:", seed, e)
		}
		for place, l := range times.Hours {
			for sum, h := range l {
				if h != c.earliest(place, sum) {
					t.Fatal("P5.3:", seed, place, sum, h)
				}
			}
			front, e := cart.Front(x.roads, x.from, place, x.hour)
			if e != api.OK || !slices.Equal(pairs(front), c.front(place)) {
				t.Fatal("P5.4:", seed, place, front, e)
			}
			fronts = max(fronts, len(front))
			if e := cart.CheckFront(x.roads, x.from, place, x.hour, front, times); e != api.OK {
				t.Fatal("P5.12:", seed, place, e)
			}
		}
	}
	if fronts < 5 {
		t.Error("too short fronts:", fronts)
	}
}
