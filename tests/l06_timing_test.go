package tests

import (
	"fmt"
	"math"
	"math/big"
	"math/rand/v2"
	"slices"
	"sync"
	"testing"

	"loop.example/g00799/impl"
)

// outOfSamples are neither a Mean nor a Swing nor a sample; some of them are so only by their higher bits.
var outOfSamples = []int64{-1, -2, -100, -4999, -5000, -5001, 5001, 5002, 10000, 1 << 31, 1 << 32, 1<<32 + 100, math.MaxInt64, math.MaxInt64 - 1, math.MinInt64, math.MinInt64 + 1}

var someSamples = []int64{0, 1, 2, 3, 4, 7, 8, 49, 50, 51, 99, 100, 101, 250, 333, 999, 1000, 1001, 2500, 4998, 4999, 5000}

// outOfRtos are no Rto.
var outOfRtos = []int64{0, 1, -1, 48, 49, 1001, 1002, 5000, -50, -1000, 1 << 32, 1<<32 + 100, math.MaxInt64, math.MaxInt64 - 1, math.MinInt64, math.MinInt64 + 1}

var someRtos = []int64{50, 51, 300, 999, 1000}

// outOfClocks are no Now.
var outOfClocks = []int64{-1, -2, -65535, -65536, -65537, -1000000, 1000001, 1000002, 1 << 31, 1 << 32, 1<<32 + 5, math.MaxInt64, math.MaxInt64 - 1, math.MinInt64, math.MinInt64 + 1}

var someClocks = []int64{0, 1, 2, 65534, 65535, 65536, 65537, 131071, 131072, 131073, 500000, 983039, 983040, 983041, 999999, 1000000}

// outOfStamps are no stamps; the first one is NoStamp.
var outOfStamps = []int64{65536, 65537, -1, -2, -65535, -65536, 131072, 1 << 31, 1 << 32, 1<<32 + 5, math.MaxInt64, math.MaxInt64 - 1, math.MinInt64, math.MinInt64 + 1}

var someStamps = []int64{0, 1, 2, 255, 256, 16959, 16960, 16961, 32767, 32768, 65534, 65535}

func known(mean int64, swing int64, rto int64) impl.Timer {
	return impl.Timer{Known: true, Mean: mean, Swing: swing, Rto: rto}
}

func isWithin(n int64, first int64, last int64) bool {
	return n >= first && n <= last
}

// trueTimerFault goes by the words of the document.
func trueTimerFault(t impl.Timer) int64 {
	switch {
	case !isWithin(t.Mean, 0, 5000), !isWithin(t.Swing, 0, 5000), !isWithin(t.Rto, 50, 1000):
		return impl.ErrRange
	case t.Known:
		return impl.OK
	case t.Mean != 0, t.Swing != 0:
		return impl.ErrState
	}
	return impl.OK
}

// parted looks for how many times parts go into sum, so that nothing hangs on how a division rounds.
func parted(sum int64, parts int64) int64 {
	low, high := int64(0), sum+1
	for low+1 < high {
		if middle := (low + high) / 2; middle*parts <= sum {
			low = middle
		} else {
			high = middle
		}
	}
	return low
}

// trueSample is for a timer and a sample that have no fault.
func trueSample(t impl.Timer, ms int64) impl.Timer {
	mean, swing := ms, parted(ms, 2)
	if t.Known {
		far := ms - t.Mean
		if ms < t.Mean {
			far = t.Mean - ms
		}
		mean, swing = parted(7*t.Mean+ms, 8), parted(3*t.Swing+far, 4)
	}
	rto := mean + 4*swing
	if rto < 50 {
		rto = 50
	}
	if rto > 1000 {
		rto = 1000
	}
	return impl.Timer{Known: true, Mean: mean, Swing: swing, Rto: rto}
}

func wantTimer(t *testing.T, name string, got impl.TimerResult, want impl.Timer) {
	t.Helper()
	if got != (impl.TimerResult{Timer: want}) {
		t.Errorf("%s: %+v; want code 0, %+v", name, got, want)
	}
}

func wantTimerFault(t *testing.T, name string, got impl.TimerResult, code int64) {
	t.Helper()
	if got != (impl.TimerResult{Code: code}) {
		t.Errorf("%s: %+v; want code %d and zeros", name, got, code)
	}
}

// wantBadTimer asks both functions of a timer: its fault comes ahead of one of the sample.
func wantBadTimer(t *testing.T, x impl.Timer, want int64) {
	t.Helper()
	if code := impl.TimerFault(x); code != want {
		t.Errorf("TimerFault of %+v: code %d; want %d", x, code, want)
	}
	for _, ms := range slices.Concat(someSamples, outOfSamples) {
		wantTimerFault(t, fmt.Sprintf("SampleTimer of %+v and %d", x, ms), impl.SampleTimer(x, ms), want)
	}
}

func wantGoodTimer(t *testing.T, x impl.Timer) {
	t.Helper()
	if code := impl.TimerFault(x); code != impl.OK {
		t.Errorf("TimerFault of %+v: code %d", x, code)
	}
	for _, ms := range someSamples {
		wantTimer(t, fmt.Sprintf("SampleTimer of %+v and %d", x, ms), impl.SampleTimer(x, ms), trueSample(x, ms))
	}
	for _, ms := range outOfSamples {
		wantTimerFault(t, fmt.Sprintf("SampleTimer of %+v and %d", x, ms), impl.SampleTimer(x, ms), impl.ErrRange)
	}
}

func TestTimingNumbers(t *testing.T) {
	got := []int64{impl.MinRto, impl.MaxRto, impl.MaxClock, impl.StampSize, impl.NoStamp, impl.MaxSample}
	if want := []int64{50, 1000, 1000000, 65536, 65536, 5000}; !slices.Equal(got, want) {
		t.Errorf("MinRto, MaxRto, MaxClock, StampSize, NoStamp and MaxSample are %v; want %v", got, want)
	}
}

func TestNewTimerKnowsNothing(t *testing.T) {
	wantTimer(t, "NewTimer", impl.NewTimer(), impl.Timer{Rto: 1000})
	wantGoodTimer(t, impl.NewTimer().Timer)
}

func TestTimersThatAreSo(t *testing.T) {
	for _, rto := range someRtos {
		wantGoodTimer(t, impl.Timer{Rto: rto})
		for _, n := range someSamples {
			wantGoodTimer(t, known(n, 0, rto))
			wantGoodTimer(t, known(0, n, rto))
			wantGoodTimer(t, known(n, n, rto))
			wantGoodTimer(t, known(n, 5000-n, rto))
		}
	}
}

func TestTimersOutOfBounds(t *testing.T) {
	for _, n := range outOfSamples {
		for _, good := range []int64{0, 1, 100, 5000} {
			wantBadTimer(t, known(n, good, 300), impl.ErrRange)
			wantBadTimer(t, known(good, n, 300), impl.ErrRange)
		}
		wantBadTimer(t, known(n, n, 300), impl.ErrRange)
		wantBadTimer(t, known(n, -n, 300), impl.ErrRange)
	}
	for _, rto := range outOfRtos {
		wantBadTimer(t, known(0, 0, rto), impl.ErrRange)
		wantBadTimer(t, known(100, 50, rto), impl.ErrRange)
		wantBadTimer(t, known(5000, 5000, rto), impl.ErrRange)
		wantBadTimer(t, impl.Timer{Rto: rto}, impl.ErrRange)
	}
	wantBadTimer(t, impl.Timer{}, impl.ErrRange)
}

func TestWhatIsNotKnownIsNought(t *testing.T) {
	for _, rto := range someRtos {
		for _, n := range someSamples[1:] {
			wantBadTimer(t, impl.Timer{Mean: n, Rto: rto}, impl.ErrState)
			wantBadTimer(t, impl.Timer{Swing: n, Rto: rto}, impl.ErrState)
			wantBadTimer(t, impl.Timer{Mean: n, Swing: n, Rto: rto}, impl.ErrState)
			wantGoodTimer(t, known(n, 0, rto))
			wantGoodTimer(t, known(0, n, rto))
		}
	}
}

// Bounds are asked ahead of what goes with a timer that is not Known.
func TestTimersWithTwoFaults(t *testing.T) {
	for _, n := range outOfSamples {
		wantBadTimer(t, impl.Timer{Mean: n, Rto: 300}, impl.ErrRange)
		wantBadTimer(t, impl.Timer{Swing: n, Rto: 300}, impl.ErrRange)
		wantBadTimer(t, impl.Timer{Mean: n, Swing: 1, Rto: 300}, impl.ErrRange)
		wantBadTimer(t, impl.Timer{Mean: 1, Swing: n, Rto: 300}, impl.ErrRange)
		wantBadTimer(t, known(n, n, 49), impl.ErrRange)
	}
	for _, rto := range outOfRtos {
		wantBadTimer(t, impl.Timer{Mean: 1, Rto: rto}, impl.ErrRange)
		wantBadTimer(t, impl.Timer{Swing: 1, Rto: rto}, impl.ErrRange)
		wantBadTimer(t, impl.Timer{Mean: 5000, Swing: 5000, Rto: rto}, impl.ErrRange)
	}
}

func TestEveryFormOfTimer(t *testing.T) {
	numbers := slices.Concat(someSamples, outOfSamples)
	for _, isKnown := range []bool{true, false} {
		for _, rto := range slices.Concat(someRtos, outOfRtos) {
			for _, mean := range numbers {
				for _, swing := range numbers {
					x := impl.Timer{Known: isKnown, Mean: mean, Swing: swing, Rto: rto}
					want := trueTimerFault(x)
					if code := impl.TimerFault(x); code != want {
						t.Fatalf("TimerFault of %+v: code %d; want %d", x, code, want)
					}
					if got := impl.SampleTimer(x, 100); got.Code != want {
						t.Fatalf("SampleTimer of %+v: code %d; want %d", x, got.Code, want)
					}
				}
			}
		}
	}
}

func TestKnownSamples(t *testing.T) {
	cases := []struct {
		name  string
		timer impl.Timer
		ms    int64
		want  impl.Timer
	}{
		{"the first sample", impl.Timer{Rto: 1000}, 100, known(100, 50, 300)},
		{"a first sample of nought", impl.Timer{Rto: 1000}, 0, known(0, 0, 50)},
		{"a first sample of one", impl.Timer{Rto: 1000}, 1, known(1, 0, 50)},
		{"the greatest first sample", impl.Timer{Rto: 50}, 5000, known(5000, 2500, 1000)},
		{"a first sample that two do not divide", impl.Timer{Rto: 50}, 101, known(101, 50, 301)},
		{"a sample above the mean", known(100, 50, 300), 200, known(112, 62, 360)},
		{"a sample below the mean", known(100, 50, 300), 20, known(90, 57, 318)},
		{"a sample just at the mean", known(100, 50, 300), 100, known(100, 37, 248)},
		{"one above the mean", known(100, 0, 100), 101, known(100, 0, 100)},
		{"one below the mean", known(100, 0, 100), 99, known(99, 0, 99)},
		{"a sample of nought", known(100, 50, 300), 0, known(87, 62, 335)},
		{"nought behind nought", known(0, 0, 50), 0, known(0, 0, 50)},
		{"one behind nought", known(0, 0, 50), 1, known(0, 0, 50)},
		{"a mean of one comes down", known(1, 1, 50), 0, known(0, 1, 50)},
		{"the greatest sample at the greatest timer", known(5000, 5000, 1000), 5000, known(5000, 3750, 1000)},
		{"nought at the greatest timer", known(5000, 5000, 1000), 0, known(4375, 5000, 1000)},
		{"the greatest sample at the least timer", known(0, 0, 50), 5000, known(625, 1250, 1000)},
		{"seven eighths of one", known(100, 0, 100), 107, known(100, 1, 104)},
		{"eight eighths of one", known(100, 0, 100), 108, known(101, 2, 109)},
	}
	for _, c := range cases {
		wantTimer(t, c.name, impl.SampleTimer(c.timer, c.ms), c.want)
	}
}

// Each Mean here is one at which the new Mean would tell another Swing.
func TestSwingIsReckonedFromTheMeanAsItWas(t *testing.T) {
	wantTimer(t, "above", impl.SampleTimer(known(100, 0, 100), 108), known(101, 2, 109))
	wantTimer(t, "below", impl.SampleTimer(known(108, 0, 108), 100), known(107, 2, 115))
	wantTimer(t, "far above", impl.SampleTimer(known(0, 0, 50), 800), known(100, 200, 900))
	wantTimer(t, "far below", impl.SampleTimer(known(800, 0, 800), 0), known(700, 200, 1000))
}

// A timer with no Swing has, behind a sample just at its Mean, this Mean as its Rto, but for the bounds.
func TestRtoAtItsBounds(t *testing.T) {
	for mean := int64(0); mean <= 5000; mean++ {
		got := impl.SampleTimer(known(mean, 0, 500), mean)
		wantTimer(t, "just at the mean", got, known(mean, 0, min(max(mean, 50), 1000)))
	}
	wantTimer(t, "two below MinRto", impl.SampleTimer(impl.Timer{Rto: 1000}, 16), known(16, 8, 50))
	wantTimer(t, "one below MinRto", impl.SampleTimer(impl.Timer{Rto: 1000}, 17), known(17, 8, 50))
	wantTimer(t, "four above MinRto", impl.SampleTimer(impl.Timer{Rto: 1000}, 18), known(18, 9, 54))
	wantTimer(t, "one below MinRto, known", impl.SampleTimer(known(45, 1, 50), 46), known(45, 1, 50))
	wantTimer(t, "just at MinRto", impl.SampleTimer(known(46, 1, 50), 47), known(46, 1, 50))
	wantTimer(t, "one above MinRto", impl.SampleTimer(known(47, 1, 50), 48), known(47, 1, 51))
	wantTimer(t, "three below MaxRto", impl.SampleTimer(impl.Timer{Rto: 50}, 333), known(333, 166, 997))
	wantTimer(t, "two above MaxRto", impl.SampleTimer(impl.Timer{Rto: 50}, 334), known(334, 167, 1000))
	wantTimer(t, "one below MaxRto", impl.SampleTimer(known(599, 134, 50), 599), known(599, 100, 999))
	wantTimer(t, "just at MaxRto", impl.SampleTimer(known(600, 134, 50), 600), known(600, 100, 1000))
	wantTimer(t, "one above MaxRto", impl.SampleTimer(known(601, 134, 50), 601), known(601, 100, 1000))
}

func TestEveryFirstSample(t *testing.T) {
	for _, rto := range someRtos {
		for ms := int64(0); ms <= 5000; ms++ {
			wantTimer(t, "a first sample", impl.SampleTimer(impl.Timer{Rto: rto}, ms), trueSample(impl.Timer{}, ms))
		}
	}
}

func TestEverySampleOfAKnownTimer(t *testing.T) {
	for _, mean := range someSamples {
		for ms := int64(0); ms <= 5000; ms++ {
			x := known(mean, 5000-ms, 300)
			wantTimer(t, fmt.Sprintf("SampleTimer of %+v and %d", x, ms), impl.SampleTimer(x, ms), trueSample(x, ms))
		}
	}
}

func TestSamplesOutOfBounds(t *testing.T) {
	timers := []impl.Timer{{Rto: 1000}, {Rto: 50}, known(0, 0, 50), known(100, 50, 300), known(5000, 5000, 1000)}
	for _, x := range timers {
		for _, ms := range outOfSamples {
			wantTimerFault(t, fmt.Sprintf("SampleTimer of %+v and %d", x, ms), impl.SampleTimer(x, ms), impl.ErrRange)
		}
		for _, ms := range []int64{0, 5000} {
			wantTimer(t, fmt.Sprintf("SampleTimer of %+v and %d", x, ms), impl.SampleTimer(x, ms), trueSample(x, ms))
		}
	}
}

// The Rto as it was tells nothing: what is answered hangs on Mean and Swing alone.
func TestRtoAsItWasTellsNothing(t *testing.T) {
	for rto := int64(50); rto <= 1000; rto++ {
		wantTimer(t, "a new timer", impl.SampleTimer(impl.Timer{Rto: rto}, 100), known(100, 50, 300))
		wantTimer(t, "a known timer", impl.SampleTimer(known(100, 50, rto), 200), known(112, 62, 360))
	}
}

// wantRun goes on with each answer, and asks that it is a timer again, and just the true one.
func wantRun(t *testing.T, x impl.Timer, samples []int64) impl.Timer {
	t.Helper()
	for i, ms := range samples {
		got, want := impl.SampleTimer(x, ms), trueSample(x, ms)
		if got != (impl.TimerResult{Timer: want}) || impl.TimerFault(got.Timer) != impl.OK {
			t.Fatalf("sample %d, %d of %+v: %+v; want code 0, %+v", i, ms, x, got, want)
		}
		if !got.Timer.Known || !isWithin(got.Timer.Rto, 50, 1000) || !isWithin(got.Timer.Mean, 0, 5000) || !isWithin(got.Timer.Swing, 0, 5000) {
			t.Fatalf("sample %d, %d of %+v leaves the bounds: %+v", i, ms, x, got)
		}
		x = got.Timer
	}
	return x
}

func TestRunsOfTheSameSample(t *testing.T) {
	for _, ms := range someSamples {
		from := impl.NewTimer().Timer
		rested := wantRun(t, from, slices.Repeat([]int64{ms}, 300))
		// From a Mean just at it nothing moves the Mean, and the Swing falls, as it is rounded down, to 0.
		if rested != known(ms, 0, min(max(ms, 50), 1000)) {
			t.Errorf("300 samples of %d: %+v", ms, rested)
		}
		fallen := wantRun(t, known(5000, 5000, 1000), slices.Repeat([]int64{ms}, 300))
		if fallen.Mean != ms {
			t.Errorf("300 samples of %d from above: %+v", ms, fallen)
		}
		// From below the Mean stays up to 7 below, as what is less than 8 eighths is rounded down.
		risen := wantRun(t, known(0, 0, 50), slices.Repeat([]int64{ms}, 300))
		if risen.Mean != max(ms-7, 0) {
			t.Errorf("300 samples of %d from below: %+v", ms, risen)
		}
	}
}

func TestRunsOfManySamples(t *testing.T) {
	source := rand.New(rand.NewPCG(6, 1))
	for range 60 {
		var samples []int64
		most := someSamples[source.IntN(len(someSamples))] + 1
		for range 400 {
			switch source.IntN(20) {
			case 0:
				samples = append(samples, 0)
			case 1:
				samples = append(samples, 5000)
			default:
				samples = append(samples, source.Int64N(most))
			}
		}
		wantRun(t, impl.NewTimer().Timer, samples)
		wantRun(t, known(source.Int64N(5001), source.Int64N(5001), 50), samples)
	}
	wantRun(t, impl.NewTimer().Timer, slices.Repeat([]int64{0, 5000}, 500))
	wantRun(t, impl.NewTimer().Timer, slices.Repeat([]int64{5000, 0}, 500))
	wantRun(t, impl.NewTimer().Timer, slices.Repeat(someSamples, 20))
}

func TestOneRunByHand(t *testing.T) {
	x := impl.NewTimer().Timer
	steps := []struct {
		ms   int64
		want impl.Timer
	}{
		{40, known(40, 20, 120)},
		{40, known(40, 15, 100)},
		{33, known(39, 13, 91)},
		{0, known(34, 19, 110)},
		{500, known(92, 130, 612)},
		{5000, known(705, 1324, 1000)},
		{10, known(618, 1166, 1000)},
		{618, known(618, 874, 1000)},
	}
	for _, s := range steps {
		got := impl.SampleTimer(x, s.ms)
		wantTimer(t, fmt.Sprintf("%d behind %+v", s.ms, x), got, s.want)
		x = got.Timer
	}
}

// round goes by whole rounds to the one number of a stamp that n stands for, also where n is below 0.
func round(n int64) int64 {
	return new(big.Int).Mod(big.NewInt(n), big.NewInt(65536)).Int64()
}

func TestKnownStamps(t *testing.T) {
	cases := map[int64]int64{0: 0, 1: 1, 65534: 65534, 65535: 65535, 65536: 0, 65537: 1, 65540: 4, 131071: 65535, 131072: 0, 983039: 65535, 983040: 0, 999999: 16959, 1000000: 16960}
	for now, want := range cases {
		wantInt(t, fmt.Sprint("StampOf ", now), impl.StampOf(now), impl.IntResult{Value: want})
	}
}

func TestEveryStamp(t *testing.T) {
	want := int64(0)
	for now := int64(0); now <= 1000000; now++ {
		if got := impl.StampOf(now); got != (impl.IntResult{Value: want}) {
			t.Fatalf("StampOf %d: %+v; want %d", now, got, want)
		}
		if want++; want == 65536 {
			want = 0
		}
	}
}

func TestStampsOfNoClock(t *testing.T) {
	for _, now := range outOfClocks {
		wantInt(t, fmt.Sprint("StampOf ", now), impl.StampOf(now), impl.IntResult{Code: impl.ErrRange})
	}
}

func TestKnownPassed(t *testing.T) {
	cases := []struct{ now, stamp, want int64 }{
		{0, 0, 0},
		{0, 1, 65535},
		{0, 65535, 1},
		{5, 5, 0},
		{5, 4, 1},
		{5, 6, 65535},
		{65535, 65535, 0},
		{65535, 0, 65535},
		{65535, 65534, 1},
		{65536, 0, 0},
		{65536, 65535, 1},
		{65536, 1, 65535},
		{65540, 65530, 10},
		{65540, 4, 0},
		{65540, 5, 65535},
		{131072, 0, 0},
		{131072, 65535, 1},
		{983040, 0, 0},
		{983039, 0, 65535},
		{1000000, 16960, 0},
		{1000000, 16959, 1},
		{1000000, 16961, 65535},
		{1000000, 0, 16960},
		{1000000, 65535, 16961},
	}
	for _, c := range cases {
		wantInt(t, fmt.Sprintf("PassedOf %d and %d", c.now, c.stamp), impl.PassedOf(c.now, c.stamp), impl.IntResult{Value: c.want})
	}
}

func TestPassedAtEveryStamp(t *testing.T) {
	for _, now := range someClocks {
		for stamp := int64(0); stamp < 65536; stamp++ {
			if got := impl.PassedOf(now, stamp); got != (impl.IntResult{Value: round(now - stamp)}) {
				t.Fatalf("PassedOf %d and %d: %+v; want %d", now, stamp, got, round(now-stamp))
			}
		}
	}
}

func TestPassedAtEveryClock(t *testing.T) {
	for _, stamp := range someStamps {
		want := round(-stamp)
		for now := int64(0); now <= 1000000; now++ {
			if got := impl.PassedOf(now, stamp); got != (impl.IntResult{Value: want}) {
				t.Fatalf("PassedOf %d and %d: %+v; want %d", now, stamp, got, want)
			}
			if want++; want == 65536 {
				want = 0
			}
		}
	}
}

// What has passed is told as long as it is less than a round; from a whole round on it is told as less.
func TestWhatHasPassedIsTold(t *testing.T) {
	for _, then := range someClocks {
		stamp := impl.StampOf(then)
		for _, passed := range []int64{0, 1, 2, 49, 50, 1000, 4999, 5000, 5001, 32767, 32768, 65534, 65535, 65536, 65537, 131071, 131072, 983040} {
			if then+passed > 1000000 {
				continue
			}
			name := fmt.Sprintf("%d behind %d", passed, then)
			wantInt(t, name, impl.PassedOf(then+passed, stamp.Value), impl.IntResult{Value: round(passed)})
			if passed < 65536 && impl.PassedOf(then+passed, stamp.Value).Value != passed {
				t.Errorf("%s is not told", name)
			}
		}
	}
}

// What is told and the stamp together are now again, but for whole rounds.
func TestPassedAndTheStampAreNow(t *testing.T) {
	for _, now := range someClocks {
		for _, stamp := range someStamps {
			passed := impl.PassedOf(now, stamp)
			if passed.Code != impl.OK || !isWithin(passed.Value, 0, 65535) {
				t.Errorf("PassedOf %d and %d: %+v", now, stamp, passed)
			}
			wantInt(t, fmt.Sprintf("StampOf what passed since %d and it, at %d", stamp, now), impl.StampOf(passed.Value+stamp), impl.StampOf(now))
		}
	}
}

func TestPassedOfNoClockAndNoStamp(t *testing.T) {
	fault := impl.IntResult{Code: impl.ErrRange}
	for _, now := range outOfClocks {
		for _, stamp := range slices.Concat(someStamps, outOfStamps) {
			wantInt(t, fmt.Sprintf("PassedOf %d and %d", now, stamp), impl.PassedOf(now, stamp), fault)
		}
	}
	for _, stamp := range outOfStamps {
		for _, now := range slices.Concat(someClocks, []int64{stamp}) {
			wantInt(t, fmt.Sprintf("PassedOf %d and %d", now, stamp), impl.PassedOf(now, stamp), fault)
		}
	}
	wantInt(t, "PassedOf NoStamp", impl.PassedOf(5, impl.NoStamp), fault)
}

// Two timers that are sampled by turns go on as if each were alone.
func TestTimersDoNotHangOnEachOther(t *testing.T) {
	a, b := impl.NewTimer().Timer, known(5000, 0, 1000)
	trueA, trueB := a, b
	for i := range int64(200) {
		was := a
		other := impl.SampleTimer(a, 5000-i)
		a = impl.SampleTimer(a, 3*i).Timer
		b = impl.SampleTimer(b, 5000-7*i).Timer
		trueA, trueB = trueSample(trueA, 3*i), trueSample(trueB, 5000-7*i)
		if a != trueA || b != trueB {
			t.Fatalf("step %d: %+v and %+v; want %+v and %+v", i, a, b, trueA, trueB)
		}
		wantTimer(t, "another sample of what was", other, trueSample(was, 5000-i))
		wantTimerFault(t, "a sample that is refused", impl.SampleTimer(a, -1), impl.ErrRange)
	}
}

func TestTimingAnswersHangOnArgumentsAlone(t *testing.T) {
	for range 3 {
		wantTimer(t, "NewTimer", impl.NewTimer(), impl.Timer{Rto: 1000})
		wantTimer(t, "SampleTimer", impl.SampleTimer(known(100, 50, 300), 200), known(112, 62, 360))
		wantTimer(t, "SampleTimer", impl.SampleTimer(impl.Timer{Rto: 1000}, 100), known(100, 50, 300))
		wantTimerFault(t, "SampleTimer", impl.SampleTimer(impl.Timer{}, 100), impl.ErrRange)
		wantBadTimer(t, impl.Timer{Mean: 1, Rto: 50}, impl.ErrState)
		wantInt(t, "StampOf", impl.StampOf(65540), impl.IntResult{Value: 4})
		wantInt(t, "StampOf", impl.StampOf(-1), impl.IntResult{Code: impl.ErrRange})
		wantInt(t, "PassedOf", impl.PassedOf(65540, 65530), impl.IntResult{Value: 10})
		wantInt(t, "PassedOf", impl.PassedOf(5, 65536), impl.IntResult{Code: impl.ErrRange})
	}
}

func TestTimingAtOneTime(t *testing.T) {
	var group sync.WaitGroup
	for worker := range int64(8) {
		group.Go(func() {
			x := known(worker*600, worker, 50)
			for i := range int64(500) {
				ms := (i*worker*37 + i) % 5001
				want := trueSample(x, ms)
				wantTimer(t, "SampleTimer", impl.SampleTimer(x, ms), want)
				x = want
				wantInt(t, "StampOf", impl.StampOf(i*2000), impl.IntResult{Value: round(i * 2000)})
				wantInt(t, "PassedOf", impl.PassedOf(i*2000, worker), impl.IntResult{Value: round(i*2000 - worker)})
			}
		})
	}
	group.Wait()
}
