package clock

import (
	"math"
	"slices"
	"testing"

	"wayfarer/api"
)

const (
	topMean   = 8 * 65535
	topSpread = 4 * 65535
)

// of is an estimate with a sample.
func of(mean, spread int) api.Rtt { return api.Rtt{Any: true, Mean: mean, Spread: spread} }

// without is an estimate that says that there was no sample.
func without(mean, spread int) api.Rtt { return api.Rtt{Mean: mean, Spread: spread} }

// sampled is the estimate behind samples, where no error may be.
func sampled(t testing.TB, r api.Rtt, samples ...uint16) api.Rtt {
	t.Helper()
	for _, ms := range samples {
		next, e := Sample(r, ms)
		if e != api.OK {
			t.Fatalf("Sample(%v, %d): %v", r, ms, e)
		}
		r = next
	}
	return r
}

// checkWaits holds Timeout and Pace of an estimate to the slow reading.
func checkWaits(t *testing.T, r api.Rtt) {
	t.Helper()
	wait, e := Timeout(r)
	if want, slow := slowTimeout(r); wait != want || e != slow {
		t.Fatalf("Timeout(%v) = %d, %v, want %d, %v", r, wait, e, want, slow)
	}
	pace, e := Pace(r)
	if want, slow := slowPace(r); pace != want || e != slow {
		t.Fatalf("Pace(%v) = %d, %v, want %d, %v", r, pace, e, want, slow)
	}
}

// checkSample holds Sample of an estimate that may be to the slow reading, and its answer to being one that may be.
func checkSample(t *testing.T, r api.Rtt, ms uint16) api.Rtt {
	t.Helper()
	next, e := Sample(r, ms)
	if want, _ := slowSample(r, ms); next != want || e != api.OK {
		t.Fatalf("Sample(%v, %d) = %v, %v, want %v", r, ms, next, e, want)
	}
	if !next.Any || !slowMay(next) || !May(next) {
		t.Fatalf("Sample(%v, %d) = %v, which may not be", r, ms, next)
	}
	return next
}

// edgeTimes is milliseconds at edges.
func edgeTimes() []uint16 {
	return []uint16{0, 1, 2, 3, 7, 8, 9, 20, 49, 50, 51, 60, 100, 250, 999, 1000, 1001, 32767, 32768, 65534, 65535}
}

// edgeMeans is Means at edges, and some whose eighths leave each rest.
func edgeMeans() []int {
	l := []int{0, 320, 336, 400, 760, 4000, 8000, topMean / 2, topMean - 8, topMean - 1, topMean}
	for rest := range 9 {
		l = append(l, rest+1, 800+rest, 262136+rest)
	}
	return l
}

// edgeSpreads is Spreads at edges, and some whose quarters leave each rest.
func edgeSpreads() []int {
	l := []int{0, topSpread / 2, topSpread - 4, topSpread - 3, topSpread - 2, topSpread - 1, topSpread}
	for rest := range 5 {
		l = append(l, rest+1, 200+rest, 131068+rest)
	}
	return l
}

// wrongs is estimates that may not be.
func wrongs() []api.Rtt {
	l := []api.Rtt{
		of(-1, 0), of(topMean+1, 0), of(0, -1), of(0, topSpread+1),
		of(-1, topSpread), of(topMean+1, topSpread), of(topMean, -1), of(topMean, topSpread+1),
		of(-1, -1), of(topMean+1, topSpread+1), of(-8, 100), of(800, -4), of(-800, 900), of(900, -800),
		of(65536*8, 200), of(800, 65536*4),
		without(1, 0), without(0, 1), without(1, 1), without(-1, 0), without(0, -1), without(-1, 1), without(1, -1),
		without(800, 200), without(800, 0), without(0, 200),
		without(topMean, topSpread), without(topMean, 0), without(0, topSpread), without(topMean+1, topSpread+1),
	}
	for _, n := range []int{math.MinInt, math.MinInt + 1, math.MinInt32, math.MaxInt32, math.MaxInt - 1, math.MaxInt} {
		l = append(l, of(n, 0), of(0, n), of(n, n), of(n, -n), of(n, topSpread), of(topMean, n), without(n, 0), without(0, n), without(n, n), without(n, -n))
	}
	return l
}

// noise is numbers that look like chance and are always the same ones.
type noise uint64

func (n *noise) next() uint64 {
	*n = *n*6364136223846793005 + 1442695040888963407
	return uint64(*n >> 32)
}

// P9.1, P9.2: the examples of the chapter.
func TestExamples(t *testing.T) {
	if n := Since(3, 65534); n != 5 {
		t.Errorf("Since(3, 65534) = %d", n)
	}
	one := sampled(t, Start(), 100)
	two := sampled(t, one, 60)
	if one != of(800, 200) || two != of(760, 190) {
		t.Errorf("behind the samples 100 and 60: %v, %v", one, two)
	}
	for _, c := range []struct {
		r          api.Rtt
		wait, pace int
	}{{Start(), 1000, 250}, {one, 300, 50}, {two, 285, 47}} {
		wait, e := Timeout(c.r)
		pace, f := Pace(c.r)
		if wait != c.wait || pace != c.pace || e != api.OK || f != api.OK {
			t.Errorf("of %v: Timeout %d, %v, Pace %d, %v", c.r, wait, e, pace, f)
		}
	}
}

// P9.1: times that come round.
func TestSinceEdges(t *testing.T) {
	for _, c := range []struct{ now, then, want uint16 }{
		{0, 0, 0}, {65535, 65535, 0}, {5, 5, 0}, {32768, 32768, 0},
		{1, 0, 1}, {65535, 0, 65535}, {65535, 65534, 1}, {9, 4, 5}, {32768, 0, 32768}, {32767, 0, 32767},
		{0, 65535, 1}, {0, 1, 65535}, {4, 5, 65535}, {65534, 65535, 65535}, {1, 65535, 2}, {4, 9, 65531}, {0, 32768, 32768}, {0, 32767, 32769},
	} {
		if n := Since(c.now, c.then); n != c.want {
			t.Errorf("Since(%d, %d) = %d, want %d", c.now, c.then, n, c.want)
		}
	}
	for _, now := range edgeTimes() {
		for _, then := range edgeTimes() {
			if n, want := Since(now, then), slowSince(now, then); int(n) != want {
				t.Errorf("Since(%d, %d) = %d, want %d", now, then, n, want)
			}
		}
	}
}

// P9.1: from each edge, all that are fewer than 65536 milliseconds.
func TestSinceAll(t *testing.T) {
	for _, then := range edgeTimes() {
		for n := range 65536 {
			now := uint16((int(then) + n) % 65536)
			if got := Since(now, then); int(got) != n {
				t.Fatalf("Since(%d, %d) = %d, want %d", now, then, got, n)
			}
		}
	}
}

// P9.1: the estimate of no sample.
func TestStart(t *testing.T) {
	if r := Start(); r != (api.Rtt{}) || !May(r) {
		t.Errorf("Start() = %v", r)
	}
}

// P9.1: what may be, at each edge.
func TestMay(t *testing.T) {
	for _, r := range []api.Rtt{
		without(0, 0), of(0, 0), of(1, 0), of(0, 1), of(1, 1),
		of(topMean, 0), of(topMean-1, 0), of(0, topSpread), of(0, topSpread-1),
		of(topMean, topSpread), of(topMean-1, topSpread-1), of(topSpread+1, topSpread), of(800, 200), of(200, 800), of(7, 3),
	} {
		if !May(r) {
			t.Errorf("May(%v) is false", r)
		}
	}
	for _, r := range wrongs() {
		if May(r) {
			t.Errorf("May(%v) is true", r)
		}
	}
}

// P9.1, P9.2: of an estimate that may not be each call says so, and nothing else.
func TestWrongEstimates(t *testing.T) {
	for _, r := range wrongs() {
		for _, ms := range edgeTimes() {
			if next, e := Sample(r, ms); next != (api.Rtt{}) || e != api.ErrArg {
				t.Errorf("Sample(%v, %d) = %v, %v", r, ms, next, e)
			}
		}
		if n, e := Timeout(r); n != 0 || e != api.ErrArg {
			t.Errorf("Timeout(%v) = %d, %v", r, n, e)
		}
		if n, e := Pace(r); n != 0 || e != api.ErrArg {
			t.Errorf("Pace(%v) = %d, %v", r, n, e)
		}
	}
}

// P9.1: the first sample, of all milliseconds.
func TestFirstSample(t *testing.T) {
	for _, c := range []struct {
		ms   uint16
		want api.Rtt
	}{{0, of(0, 0)}, {1, of(8, 2)}, {100, of(800, 200)}, {8192, of(65536, 16384)}, {32768, of(262144, 65536)}, {65535, of(524280, 131070)}} {
		if r := sampled(t, Start(), c.ms); r != c.want {
			t.Errorf("Sample(Start(), %d) = %v, want %v", c.ms, r, c.want)
		}
	}
	for n := range 65536 {
		checkSample(t, Start(), uint16(n))
	}
}

// P9.1: an estimate of 0 with a sample is not the one of none.
func TestSecondSample(t *testing.T) {
	zero := sampled(t, Start(), 0)
	if r := sampled(t, zero, 100); zero != of(0, 0) || r != of(100, 100) {
		t.Errorf("behind the samples 0 and 100: %v, %v", zero, r)
	}
}

// P9.1: samples above and below the mean, with divisions that leave a rest.
func TestSampleByHand(t *testing.T) {
	for _, c := range []struct {
		r    api.Rtt
		ms   uint16
		want api.Rtt
	}{
		{of(800, 200), 60, of(760, 190)},
		{of(800, 200), 100, of(800, 150)},
		{of(800, 200), 140, of(840, 190)},
		{of(800, 200), 101, of(801, 151)},
		{of(800, 200), 99, of(799, 151)},
		{of(807, 203), 100, of(807, 153)},
		{of(807, 203), 101, of(808, 154)},
		{of(807, 203), 99, of(806, 154)},
		{of(799, 199), 100, of(800, 151)},
		{of(799, 199), 99, of(799, 150)},
		{of(0, 0), 0, of(0, 0)},
		{of(0, 0), 1, of(1, 1)},
		{of(0, 0), 65535, of(65535, 65535)},
		{of(1, 1), 0, of(1, 1)},
		{of(7, 3), 0, of(7, 3)},
		{of(8, 4), 0, of(7, 4)},
		{of(8, 0), 0, of(7, 1)},
		{of(15, 7), 0, of(14, 7)},
		{of(16, 8), 0, of(14, 8)},
		{of(0, 262140), 65535, of(65535, 262140)},
		{of(0, 262140), 0, of(0, 196605)},
		{of(524280, 262140), 0, of(458745, 262140)},
		{of(524280, 262139), 0, of(458745, 262140)},
		{of(524280, 262140), 65535, of(524280, 196605)},
		{of(524279, 262140), 65535, of(524280, 196606)},
		{of(524280, 0), 0, of(458745, 65535)},
		{of(524279, 0), 0, of(458745, 65534)},
	} {
		if got := sampled(t, c.r, c.ms); got != c.want {
			t.Errorf("Sample(%v, %d) = %v, want %v", c.r, c.ms, got, c.want)
		}
	}
}

// P9.1, P9.3: the edges of Mean, of Spread and of the sample with each other; each answer may be.
func TestSampleEdges(t *testing.T) {
	for _, mean := range edgeMeans() {
		for _, spread := range edgeSpreads() {
			for _, ms := range edgeTimes() {
				checkSample(t, of(mean, spread), ms)
			}
		}
	}
}

// P9.1, P9.2, P9.3: all Means and all Spreads, with samples of edges and of other sizes.
func TestAllMeansAndSpreads(t *testing.T) {
	n := noise(9)
	for mean := range topMean + 1 {
		r := of(mean, int(n.next()%(topSpread+1)))
		checkWaits(t, of(mean, mean%1100))
		checkSample(t, r, edgeTimes()[mean%len(edgeTimes())])
	}
	for spread := range topSpread + 1 {
		r := of(int(n.next()%(topMean+1)), spread)
		checkWaits(t, of(r.Mean%9000, spread))
		checkSample(t, r, uint16(n.next()))
	}
}

// P9.2: below, at and above each bound of Timeout.
func TestTimeoutBounds(t *testing.T) {
	for _, c := range []struct {
		r    api.Rtt
		want int
	}{
		{Start(), 1000},
		{of(0, 0), 50}, {of(0, 1), 50}, {of(8, 2), 50},
		{of(0, 49), 50}, {of(0, 50), 50}, {of(0, 51), 51},
		{of(392, 0), 50}, {of(399, 0), 50}, {of(400, 0), 50}, {of(407, 0), 50}, {of(408, 0), 51},
		{of(399, 1), 50}, {of(399, 2), 51}, {of(200, 25), 50}, {of(207, 25), 50}, {of(208, 25), 51}, {of(327, 12), 52},
		{of(800, 200), 300}, {of(760, 190), 285}, {of(767, 190), 285}, {of(760, 193), 288},
		{of(0, 999), 999}, {of(0, 1000), 1000}, {of(0, 1001), 1000},
		{of(7992, 0), 999}, {of(7999, 0), 999}, {of(8000, 0), 1000}, {of(8007, 0), 1000}, {of(8008, 0), 1000},
		{of(7, 999), 999}, {of(4000, 499), 999}, {of(4007, 499), 999}, {of(4000, 500), 1000}, {of(4008, 500), 1000},
		{of(topMean, 0), 1000}, {of(0, topSpread), 1000}, {of(topMean, topSpread), 1000},
	} {
		if n, e := Timeout(c.r); n != c.want || e != api.OK {
			t.Errorf("Timeout(%v) = %d, %v, want %d", c.r, n, e, c.want)
		}
		checkWaits(t, c.r)
	}
}

// P9.2: below, at and above each bound of Pace, whatever the spread is.
func TestPaceBounds(t *testing.T) {
	if n, e := Pace(Start()); n != 250 || e != api.OK {
		t.Errorf("Pace(Start()) = %d, %v", n, e)
	}
	for _, c := range []struct{ mean, want int }{
		{0, 20}, {1, 20}, {8, 20}, {16, 20},
		{304, 20}, {319, 20}, {320, 20}, {327, 20}, {328, 20}, {335, 20}, {336, 21}, {343, 21}, {351, 21}, {352, 22},
		{399, 24}, {760, 47}, {767, 47}, {768, 48}, {800, 50},
		{3983, 248}, {3984, 249}, {3999, 249}, {4000, 250}, {4008, 250}, {4015, 250}, {4016, 250}, {8000, 250}, {topMean, 250},
	} {
		for _, spread := range edgeSpreads() {
			if n, e := Pace(of(c.mean, spread)); n != c.want || e != api.OK {
				t.Errorf("Pace(%v) = %d, %v, want %d", of(c.mean, spread), n, e, c.want)
			}
		}
	}
}

// P9.3: all short rows of samples of edges.
func TestShortRows(t *testing.T) {
	times := []uint16{0, 1, 2, 7, 8, 100, 1000, 32768, 65534, 65535}
	var walk func(r api.Rtt, left int)
	walk = func(r api.Rtt, left int) {
		checkWaits(t, r)
		if left == 0 {
			return
		}
		for _, ms := range times {
			walk(checkSample(t, r, ms), left-1)
		}
	}
	walk(Start(), 5)
}

// P9.3: long rows of samples, those that go as far as samples can among them.
func TestLongRows(t *testing.T) {
	n := noise(3)
	for kind, sample := range []func(i int) uint16{
		func(i int) uint16 { return 65535 },
		func(i int) uint16 { return 0 },
		func(i int) uint16 { return uint16(i%2) * 65535 },
		func(i int) uint16 { return uint16(1-i%2) * 65535 },
		func(i int) uint16 { return uint16(i/50%2) * 65535 },
		func(i int) uint16 { return uint16(i * 1300) },
		func(i int) uint16 { return uint16(n.next()) },
		func(i int) uint16 { return uint16(n.next() % 300) },
		func(i int) uint16 { return uint16(n.next()%2) * 65535 },
	} {
		r := Start()
		for i := range 5000 {
			r = checkSample(t, r, sample(i))
			checkWaits(t, r)
		}
		if kind == 0 && r.Mean != topMean || kind == 1 && r != of(0, 0) {
			t.Errorf("row %d ends at %v", kind, r)
		}
	}
}

// checkAlike holds an estimate to where it comes when all samples are of ms milliseconds from now on.
func checkAlike(t *testing.T, r api.Rtt, ms uint16) {
	t.Helper()
	from, before := r, math.MaxInt
	for i := range 220 {
		r = sampled(t, r, ms)
		wait, _ := Timeout(r)
		if r.Mean/8 == int(ms) {
			if wait > before {
				t.Fatalf("from %v on, with samples of %d: Timeout rose from %d to %d", from, ms, before, wait)
			}
			before = wait
		}
		if i < 200 {
			continue
		}
		if mean := r.Mean / 8; mean < int(ms)-1 || mean > int(ms)+1 {
			t.Fatalf("from %v on, with samples of %d: the mean is %d", from, ms, mean)
		}
		// A spread of less than a millisecond is not made smaller: a quarter of 3 is 0.
		if least, most := between(number(int(ms)), 50, 1000), between(number(int(ms)+3), 50, 1000); wait < least || wait > most || r.Spread > 3 {
			t.Fatalf("from %v on, with samples of %d: Timeout is %d, Spread is %d", from, ms, wait, r.Spread)
		}
	}
	if next := sampled(t, r, ms); next != r {
		t.Fatalf("from %v on, with samples of %d: %v goes on to %v", from, ms, r, next)
	}
}

// P9.3: all samples alike, behind whatever came ahead.
func TestAlike(t *testing.T) {
	times := edgeTimes()
	for ms := range 60 {
		times = append(times, uint16(ms), uint16(960+ms))
	}
	starts := []api.Rtt{Start()}
	for _, mean := range edgeMeans() {
		for _, spread := range []int{0, 3, 4, 5, 200, topSpread - 1, topSpread} {
			starts = append(starts, of(mean, spread))
		}
	}
	for _, r := range starts {
		for _, ms := range times {
			checkAlike(t, r, ms)
		}
	}
}

// P9.3: how far Timeout falls, by hand.
func TestTimeoutFalls(t *testing.T) {
	for _, c := range []struct {
		r    api.Rtt
		ms   uint16
		want int
	}{
		{of(topMean, topSpread), 90, 93},
		{of(topMean, topSpread), 0, 50},
		{of(topMean, topSpread), 46, 50},
		{of(topMean, topSpread), 47, 50},
		{of(topMean, topSpread), 48, 51},
		{of(topMean, topSpread), 990, 993},
		{of(topMean, topSpread), 1000, 1000},
		{of(topMean, topSpread), 65535, 1000},
		{of(0, 0), 90, 93},
		{of(720, 0), 90, 90},
		{of(720, 2), 90, 92},
		{Start(), 90, 93},
		{Start(), 65535, 1000},
	} {
		r := sampled(t, c.r, slices.Repeat([]uint16{c.ms}, 220)...)
		if n, e := Timeout(r); n != c.want || e != api.OK {
			t.Errorf("from %v on, with samples of %d: Timeout is %d, %v, want %d", c.r, c.ms, n, e, c.want)
		}
	}
}
