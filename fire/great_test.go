package fire_test

import (
	"math/rand/v2"
	"reflect"
	"slices"
	"testing"

	"calx/api"
	"calx/fire"
)

// hours is how many hours a map of a shaft has.
const hours = 45

// chart is a heat for each foot and hour.
type chart [api.MaxFeet + 1][hours]int

// charts returns the low and the high ends of all feet and hours, spread from each place to those beside it until nothing changes.
func charts(f api.Fire) (chart, chart) {
	var low, high chart
	for foot := range high {
		for hour := range high[foot] {
			high[foot][hour] = api.MaxHeat
		}
	}
	for _, x := range f.Looks {
		l, h := &low[x.At.Foot][x.At.Hour], &high[x.At.Foot][x.At.Hour]
		*l, *h = max(*l, x.Heat.Lo), min(*h, x.Heat.Hi)
	}
	for changed := true; changed; {
		changed = false
		for foot := range low {
			for hour := range low[foot] {
				// What is beside the place, by how much more it can have than the place, and how much less.
				for _, d := range [][4]int{{0, 1, f.Rise, f.Fall}, {0, -1, f.Fall, f.Rise}, {1, 0, f.Up, f.Down}, {-1, 0, f.Down, f.Up}} {
					y, x := foot+d[0], hour+d[1]
					if y < 0 || y >= len(low) || x < 0 || x >= hours {
						continue
					}
					if least := low[y][x] - d[2]; least > low[foot][hour] {
						low[foot][hour], changed = least, true
					}
					if most := high[y][x] + d[3]; most < high[foot][hour] {
						high[foot][hour], changed = most, true
					}
				}
			}
		}
	}
	return low, high
}

// TestGreatEnds: in the greatest fires, all ends are those that spread from place to place, and true heats lie between.
func TestGreatEnds(t *testing.T) {
	for seed := range uint64(6) {
		f, heat := great(seed)
		if _, _, found, e := fire.Clash(f); found || e != api.OK {
			t.Fatal("P2.12: looks at true heats contradict each other:", e)
		}
		low, high := charts(f)
		for foot := range low {
			for hour := range low[foot] {
				at := spot(foot, hour)
				b, e := fire.Ends(f, at)
				if e != api.OK || b.Span != span(low[foot][hour], high[foot][hour]) {
					t.Fatal("P2.4:", seed, at, b, e, low[foot][hour], high[foot][hour])
				}
				if x := heat(at); x < b.Span.Lo || x > b.Span.Hi {
					t.Fatal("P2.11, T2:", seed, at, b, x)
				}
			}
		}
	}
}

// TestGreatPaths: along a path of true heats, all that is told is true; and with a greater need nothing is greater.
func TestGreatPaths(t *testing.T) {
	for seed := range uint64(6) {
		f, heat := great(seed)
		r := rand.New(rand.NewPCG(seed, 3))
		var path []api.Spot
		var heats []int
		for hour := range api.MaxSteps {
			at := spot(r.IntN(3)+max(0, api.MaxFeet-2-hour), hour)
			path, heats = append(path, at), append(heats, heat(at))
		}
		if ok, e := fire.Fits(f, path[:api.MaxSpots], heats[:api.MaxSpots]); !ok || e != api.OK {
			t.Error("P2.11: true heats do not fit:", ok, e)
		}
		var low, high api.Burn
		for need := api.MaxHeat; need >= 0; need -= 60 {
			a, b, e := fire.Burnt(f, path, need)
			x := sunk(heats, need)
			if e != api.OK || !isMore(x, a) || !isMore(b, x) {
				t.Error("P2.14, T2:", need, a, x, b, e)
			}
			if !isMore(a, low) || !isMore(b, high) {
				t.Error("P2.14: more with a greater need:", need, a, low, b, high)
			}
			low, high = a, b
			sure, _ := fire.Surely(f, path, need)
			possible, _ := fire.Possibly(f, path, need)
			surely, _ := steps(sure)
			possibly, _ := steps(possible)
			for i, heat := range heats {
				if slices.Contains(surely, i) && heat < need || !slices.Contains(possibly, i) && heat >= need {
					t.Error("P2.14, T2:", need, i, heat)
				}
			}
			if len(surely) != a.Hours || len(possibly) != b.Hours {
				t.Error("P2.7, P2.8:", need, surely, a, possibly, b)
			}
		}
	}
}

// isMore is whether something burnt at least as much in each way.
func isMore(a, b api.Burn) bool { return a.Hours >= b.Hours && a.Row >= b.Row && a.Sum >= b.Sum }

// TestGreatApart: the ends of two spots are no farther apart than the spots.
func TestGreatApart(t *testing.T) {
	for seed := range uint64(6) {
		f, _ := great(seed)
		r := rand.New(rand.NewPCG(seed, 4))
		for range 300 {
			p, q := spot(r.IntN(61), r.IntN(hours)), spot(r.IntN(61), r.IntN(hours))
			a, _ := fire.Ends(f, p)
			b, _ := fire.Ends(f, q)
			far, _ := fire.Far(f, p, q)
			if b.Span.Lo > a.Span.Lo+far || b.Span.Hi > a.Span.Hi+far {
				t.Error("P2.11:", p, a, q, b, far)
			}
		}
	}
}

// TestGreatLooks: a look that tells the ends of its spot changes nothing, and none moves an end outwards; what Needed and Decides tell is so.
func TestGreatLooks(t *testing.T) {
	for seed := range uint64(6) {
		f, heat := great(seed)
		f.Looks = f.Looks[1:]
		r := rand.New(rand.NewPCG(seed, 5))
		for range 200 {
			at, look := spot(r.IntN(61), r.IntN(hours)), spot(r.IntN(61), r.IntN(hours))
			old, _ := fire.Ends(f, at)
			seen, _ := fire.Ends(f, look)
			b, e := fire.Would(f, api.Look{ID: 5, At: look, Heat: seen.Span}, at)
			if e != api.OK || b.Span != old.Span {
				t.Error("P2.13:", look, at, b, e, old)
			}
			x := heat(look)
			b, e = fire.Would(f, api.Look{ID: 5, At: look, Heat: span(x, x)}, at)
			if e != api.OK || b.Span.Lo < old.Span.Lo || b.Span.Hi > old.Span.Hi || heat(at) < b.Span.Lo || heat(at) > b.Span.Hi {
				t.Error("P2.13, T2:", look, at, b, e, old)
			}
			checkNeeded(t, f, look, at, (old.Span.Lo+old.Span.Hi)/2)
		}
	}
}

// checkNeeded compares what Needed and Decides tell with looks that show it.
func checkNeeded(t *testing.T, f api.Fire, look, at api.Spot, need int) {
	t.Helper()
	ends, _ := fire.Ends(f, look)
	h, ok, e := fire.Needed(f, look, at, need)
	if e != api.OK {
		t.Fatal("P2.10:", e)
	}
	would := func(lo, hi int) api.Span {
		b, e := fire.Would(f, api.Look{ID: 5, At: look, Heat: span(lo, hi)}, at)
		if e != api.OK {
			t.Fatal("P2.15:", look, lo, hi, e)
		}
		return b.Span
	}
	if ok && would(h, ends.Span.Hi).Lo < need {
		t.Error("P2.15: not sure:", look, at, need, h)
	}
	if ok && h > ends.Span.Lo && would(h-1, ends.Span.Hi).Lo >= need {
		t.Error("P2.10: less is sure:", look, at, need, h)
	}
	if !ok && would(ends.Span.Hi, ends.Span.Hi).Lo >= need {
		t.Error("P2.10: the high end is sure:", look, at, need)
	}
	l, e := fire.Decides(f, []api.Spot{look}, at, need)
	decides := ok && h > ends.Span.Lo && would(ends.Span.Lo, ends.Span.Lo).Hi < need
	if e != api.OK || decides != slices.Equal(l, []int{0}) || len(l) > 1 {
		t.Error("P2.10, P2.15:", look, at, need, l, e, decides)
	}
}

// TestAnyOrder: the order of looks does not matter for what is returned, with and without contradictions.
func TestAnyOrder(t *testing.T) {
	for seed := range uint64(12) {
		f, _ := great(seed)
		if seed%2 == 1 {
			f.Looks[3].Heat = span(0, 0)
		}
		r := rand.New(rand.NewPCG(seed, 6))
		var path []api.Spot
		for hour := range api.MaxSpots {
			path = append(path, spot(r.IntN(61), hour))
		}
		want := all(f, path)
		for range 5 {
			r.Shuffle(len(f.Looks), func(i, j int) { f.Looks[i], f.Looks[j] = f.Looks[j], f.Looks[i] })
			if got := all(f, path); !reflect.DeepEqual(got, want) {
				t.Error("P2.16:", got, want)
			}
		}
	}
}

// all is what is told of a fire and a path.
func all(f api.Fire, path []api.Spot) []any {
	var l []any
	add := func(x ...any) { l = append(l, x...) }
	tell := func(a any, e api.Errno) { add(a, e) }
	a, b, found, e := fire.Clash(f)
	add(a, b, found, e)
	tell(fire.Suspects(f))
	tell(fire.Coolest(f, path))
	tell(fire.Hottest(f, path))
	heats, _ := fire.Coolest(f, path)
	tell(fire.Fits(f, path, heats))
	low, high, e := fire.Burnt(f, path, 800)
	add(low, high, e)
	tell(fire.Surely(f, path, 700))
	tell(fire.Possibly(f, path, 900))
	tell(fire.Decides(f, path, path[7], 850))
	for _, at := range path {
		tell(fire.Ends(f, at))
		tell(fire.Rests(f, at))
		h, ok, e := fire.Needed(f, path[3], at, 850)
		add(h, ok, e)
		tell(fire.Would(f, api.Look{ID: 5, At: path[5], Heat: span(0, api.MaxHeat)}, at))
		tell(fire.Far(f, path[0], at))
		add(fire.CheckEnds(f, at, api.Bounds{Span: span(0, api.MaxHeat)}))
	}
	return l
}

// TestMemory: arguments stay as they are, also behind the ends of their slices.
func TestMemory(t *testing.T) {
	for _, first := range []api.Fire{example(), broken()} {
		room := append(slices.Clone(first.Looks), api.Look{ID: 71}, api.Look{ID: 72})
		kept := slices.Clone(room)
		f := first
		slices.Reverse(room[:len(first.Looks)])
		slices.Reverse(kept[:len(first.Looks)])
		f.Looks = room[:len(first.Looks)]
		path := append(still(10, 14, 4), spot(1, 1))[:4]
		keptPath := slices.Clone(path[:5])
		ids := []int{3, 1, 3}
		all(f, append(still(10, 14, 8), path...))
		fire.Without(f, ids)
		fire.Would(f, api.Look{ID: 9, Heat: span(0, 1500)}, path[0])
		fire.Burnt(f, path, 800)
		fire.Decides(f, path, path[0], 900)
		fire.CheckEnds(f, path[0], api.Bounds{})
		fire.CheckClash(f, 4, 1)
		if !slices.Equal(room, kept) || !slices.Equal(path[:5], keptPath) || !slices.Equal(ids, []int{3, 1, 3}) {
			t.Error("R6:", room, path, ids)
		}
	}
	// What one call returns is not changed by a later one.
	f, l := example(), still(10, 14, 4)
	low, _ := fire.Coolest(f, l)
	kept := slices.Clone(low)
	other, _ := fire.Coolest(f, l)
	other[0] = -1
	fire.Hottest(f, l)
	if !slices.Equal(low, kept) {
		t.Error("R6:", low, kept)
	}
}
