package tests

import (
	"fmt"
	"math"
	"math/rand/v2"
	"slices"
	"sync"
	"testing"

	"loop.example/g00799/impl"
)

// outOfSeqs are no numbers of a packet, whatever was taken.
var outOfSeqs = []int64{impl.NoSeq, -2, -31, -32, -33, -9999, 10000, 10001, 10031, 1 << 32, 1<<32 + 5, math.MaxInt64 - 31, math.MaxInt64, math.MinInt64, math.MinInt64 + 31}

// history tells a window otherwise than in the program: it keeps all that was ever taken, and looks through it.
type history struct {
	taken []int64
}

// window is asked of a history that has some.
func (h *history) window() impl.Replay {
	w := impl.Replay{Top: slices.Max(h.taken)}
	for seq := max(w.Top-31, 0); seq <= w.Top; seq++ {
		if slices.Contains(h.taken, seq) {
			w.Seen = append(w.Seen, seq)
		}
	}
	return w
}

func (h *history) code(seq int64) int64 {
	if seq < 0 || seq > 9999 {
		return impl.ErrRange
	}
	for _, other := range h.taken {
		if other == seq || other >= seq+32 {
			return impl.ErrOld
		}
	}
	return impl.OK
}

// trueFault goes by the words of the document, each code over the whole window ahead of the next one.
func trueFault(r impl.Replay) int64 {
	none := len(r.Seen) == 0
	falls := false
	for i, seq := range r.Seen {
		falls = falls || i > 0 && seq <= r.Seen[i-1]
	}
	switch {
	case r.Top < -1 || r.Top > 9999:
		return impl.ErrRange
	case !none && (slices.Min(r.Seen) < 0 || slices.Max(r.Seen) > r.Top || slices.Min(r.Seen) <= r.Top-32):
		return impl.ErrRange
	case falls:
		return impl.ErrForm
	case r.Top == -1 && !none, r.Top != -1 && none:
		return impl.ErrState
	case !none && r.Seen[len(r.Seen)-1] != r.Top:
		return impl.ErrState
	}
	return impl.OK
}

func replayOf(top int64, seen ...int64) impl.Replay {
	return impl.Replay{Top: top, Seen: seen}
}

// numbersTo has all numbers from first to last.
func numbersTo(first int64, last int64) []int64 {
	var numbers []int64
	for n := first; n <= last; n++ {
		numbers = append(numbers, n)
	}
	return numbers
}

func isReplay(r impl.Replay, top int64, seen []int64) bool {
	return r.Top == top && slices.Equal(r.Seen, seen)
}

func wantReplay(t *testing.T, name string, got impl.ReplayResult, top int64, seen ...int64) {
	t.Helper()
	if got.Code != impl.OK || !isReplay(got.Replay, top, seen) {
		t.Errorf("%s: %+v; want code 0, Top %d, Seen %v", name, got, top, seen)
	}
}

func wantReplayFault(t *testing.T, name string, got impl.ReplayResult, code int64) {
	t.Helper()
	if got.Code != code || !isReplay(got.Replay, 0, nil) {
		t.Errorf("%s: %+v; want code %d and zeros", name, got, code)
	}
}

// wantTaken asks both functions of a number that is to be taken.
func wantTaken(t *testing.T, r impl.Replay, seq int64, top int64, seen ...int64) {
	t.Helper()
	name := fmt.Sprintf("%d into %+v", seq, r)
	if code := impl.CheckReplay(r, seq); code != impl.OK {
		t.Errorf("CheckReplay of %s: code %d", name, code)
	}
	wantReplay(t, "TakeReplay of "+name, impl.TakeReplay(r, seq), top, seen...)
}

// wantRefused asks both functions of a number that is not to be taken.
func wantRefused(t *testing.T, r impl.Replay, seq int64, want int64) {
	t.Helper()
	name := fmt.Sprintf("%d into %+v", seq, r)
	if code := impl.CheckReplay(r, seq); code != want {
		t.Errorf("CheckReplay of %s: code %d; want %d", name, code, want)
	}
	wantReplayFault(t, "TakeReplay of "+name, impl.TakeReplay(r, seq), want)
}

// wantFault asks all three functions of a window: its fault comes ahead of whatever is asked of the number.
func wantFault(t *testing.T, r impl.Replay, want int64) {
	t.Helper()
	if code := impl.ReplayFault(r); code != want {
		t.Errorf("ReplayFault of %+v: code %d; want %d", r, code, want)
	}
	if want == impl.OK {
		return
	}
	for _, seq := range append([]int64{0, 1, 5, 18, 50, 51, 9999, r.Top}, outOfSeqs...) {
		wantRefused(t, r, seq, want)
	}
}

func mustTake(t *testing.T, seqs ...int64) impl.Replay {
	t.Helper()
	r := impl.NewReplay().Replay
	for _, seq := range seqs {
		got := impl.TakeReplay(r, seq)
		if got.Code != impl.OK {
			t.Fatalf("TakeReplay of %d into %+v: code %d", seq, r, got.Code)
		}
		r = got.Replay
	}
	return r
}

func TestReplayNumbers(t *testing.T) {
	if impl.ReplaySize != 32 || impl.NoSeq != -1 {
		t.Errorf("ReplaySize is %d, NoSeq is %d; want 32 and -1", impl.ReplaySize, impl.NoSeq)
	}
}

func TestNewReplay(t *testing.T) {
	got := impl.NewReplay()
	wantReplay(t, "NewReplay", got, -1)
	wantFault(t, got.Replay, impl.OK)
}

func TestTakeReplayKnownWindows(t *testing.T) {
	wantReplay(t, "5 into a new window", impl.TakeReplay(impl.NewReplay().Replay, 5), 5, 5)
	wantTaken(t, replayOf(5, 5), 6, 6, 5, 6)
	wantTaken(t, replayOf(5, 5), 3, 5, 3, 5)
	wantTaken(t, replayOf(5, 3, 5), 4, 5, 3, 4, 5)
	wantTaken(t, replayOf(5, 3, 5), 0, 5, 0, 3, 5)
	wantTaken(t, replayOf(5, 3, 5), 9, 9, 3, 5, 9)
	wantTaken(t, replayOf(5, 3, 5), 36, 36, 5, 36)
	wantTaken(t, replayOf(300, 270, 280, 300), 290, 300, 270, 280, 290, 300)
	wantTaken(t, replayOf(300, 270, 280, 300), 269, 300, 269, 270, 280, 300)
	wantTaken(t, replayOf(300, 270, 280, 300), 311, 311, 280, 300, 311)
}

func TestFirstNumber(t *testing.T) {
	fresh := impl.NewReplay().Replay
	for seq := range int64(impl.MaxSeq + 1) {
		wantTaken(t, fresh, seq, seq, seq)
	}
	for _, seq := range outOfSeqs {
		wantRefused(t, fresh, seq, impl.ErrRange)
	}
	zero := replayOf(0, 0)
	wantFault(t, zero, impl.OK)
	wantRefused(t, zero, 0, impl.ErrOld)
	wantTaken(t, zero, 1, 1, 0, 1)
	wantTaken(t, zero, 31, 31, 0, 31)
	wantTaken(t, zero, 32, 32, 32)
	wantTaken(t, zero, 9999, 9999, 9999)
}

func TestNumbersThatAreTooOld(t *testing.T) {
	for _, top := range []int64{32, 33, 34, 50, 63, 64, 65, 255, 256, 5000, 9998, 9999} {
		for _, r := range []impl.Replay{replayOf(top, top), {Top: top, Seen: numbersTo(top-30, top)}} {
			wantRefused(t, r, top-32, impl.ErrOld)
			wantRefused(t, r, 0, impl.ErrOld)
			if top > 32 {
				wantRefused(t, r, top-33, impl.ErrOld)
			}
			wantTaken(t, r, top-31, top, append([]int64{top - 31}, r.Seen...)...)
		}
	}
}

// Below a Top of 32 nothing is too old: Top less ReplaySize is below 0, and only the bounds are left.
func TestNothingIsTooOldYet(t *testing.T) {
	for top := range int64(32) {
		r := replayOf(top, top)
		for seq := range top {
			wantTaken(t, r, seq, top, seq, top)
		}
		wantRefused(t, r, top, impl.ErrOld)
		for seq := top - 33; seq < 0; seq++ {
			wantRefused(t, r, seq, impl.ErrRange)
		}
	}
}

func TestNumbersThatWereSeen(t *testing.T) {
	seen := []int64{69, 70, 75, 80, 99, 100}
	r := impl.Replay{Top: 100, Seen: seen}
	wantFault(t, r, impl.OK)
	for seq := range int64(101) {
		if seq <= 68 || slices.Contains(seen, seq) {
			wantRefused(t, r, seq, impl.ErrOld)
			continue
		}
		place, _ := slices.BinarySearch(seen, seq)
		wantTaken(t, r, seq, 100, slices.Insert(slices.Clone(seen), place, seq)...)
	}
}

func TestNumbersFarAboveTop(t *testing.T) {
	r := replayOf(100, 69, 70, 99, 100)
	wantTaken(t, r, 101, 101, 70, 99, 100, 101)
	wantTaken(t, r, 102, 102, 99, 100, 102)
	wantTaken(t, r, 130, 130, 99, 100, 130)
	wantTaken(t, r, 131, 131, 100, 131)
	for _, seq := range []int64{132, 133, 200, 5000, 9998, 9999} {
		wantTaken(t, r, seq, seq, seq)
	}
}

func TestFullWindow(t *testing.T) {
	for _, top := range []int64{31, 32, 100, 9998, 9999} {
		full := impl.Replay{Top: top, Seen: numbersTo(top-31, top)}
		wantFault(t, full, impl.OK)
		for _, seq := range full.Seen {
			wantRefused(t, full, seq, impl.ErrOld)
		}
		for _, step := range []int64{1, 2, 30, 31, 32} {
			if top+step > impl.MaxSeq {
				wantRefused(t, full, top+step, impl.ErrRange)
				continue
			}
			seen := append(numbersTo(top+step-31, top), top+step)
			wantTaken(t, full, top+step, top+step, seen...)
		}
	}
}

func TestBoundsOfNumbers(t *testing.T) {
	for _, r := range []impl.Replay{replayOf(-1), replayOf(0, 0), replayOf(5, 3, 5), replayOf(50, 19, 50), replayOf(9998, 9998), replayOf(9999, 9999)} {
		for _, seq := range outOfSeqs {
			wantRefused(t, r, seq, impl.ErrRange)
		}
	}
	wantTaken(t, replayOf(9998, 9998), 9999, 9999, 9998, 9999)
	wantTaken(t, replayOf(9967, 9967), 9999, 9999, 9999)
	wantTaken(t, replayOf(9999, 9999), 9998, 9999, 9998, 9999)
	wantTaken(t, replayOf(9999, 9999), 9968, 9999, 9968, 9999)
	wantRefused(t, replayOf(9999, 9999), 9967, impl.ErrOld)
	wantRefused(t, replayOf(9999, 9999), 9999, impl.ErrOld)
}

func TestWindowsThatAreSo(t *testing.T) {
	for top := range int64(impl.MaxSeq + 1) {
		if code := impl.ReplayFault(replayOf(top, top)); code != impl.OK {
			t.Errorf("ReplayFault of Top %d, Seen %d: code %d", top, top, code)
		}
	}
	for _, r := range []impl.Replay{replayOf(5, 3, 5), replayOf(31, 0, 31), replayOf(50, 19, 50), replayOf(9999, 9968, 9999)} {
		wantFault(t, r, impl.OK)
	}
}

func TestFaultsOfWindowsOneByOne(t *testing.T) {
	cases := []struct {
		name string
		r    impl.Replay
		want int64
	}{
		{"Top below NoSeq", replayOf(-2), impl.ErrRange},
		{"Top far below", replayOf(math.MinInt64), impl.ErrRange},
		{"Top one above MaxSeq", replayOf(10000, 10000), impl.ErrRange},
		{"Top far above", replayOf(math.MaxInt64, math.MaxInt64), impl.ErrRange},
		{"one below 0", replayOf(5, -1, 5), impl.ErrRange},
		{"one far below 0", replayOf(5, math.MinInt64, 5), impl.ErrRange},
		{"one above Top", replayOf(5, 5, 6), impl.ErrRange},
		{"one far above Top", replayOf(5, 5, math.MaxInt64), impl.ErrRange},
		{"one alone above Top", replayOf(5, 6), impl.ErrRange},
		{"one at Top less ReplaySize", replayOf(50, 18, 50), impl.ErrRange},
		{"one below Top less ReplaySize", replayOf(50, 17, 50), impl.ErrRange},
		{"0 at Top less ReplaySize", replayOf(32, 0, 32), impl.ErrRange},
		{"two the same", replayOf(5, 3, 3, 5), impl.ErrForm},
		{"Top twice", replayOf(5, 5, 5), impl.ErrForm},
		{"two that fall", replayOf(5, 4, 3, 5), impl.ErrForm},
		{"the first falls from Top", replayOf(5, 5, 3, 5), impl.ErrForm},
		{"last is not Top", replayOf(5, 3, 4), impl.ErrState},
		{"one that is not Top", replayOf(5, 4), impl.ErrState},
		{"none under Top 5", replayOf(5), impl.ErrState},
		{"none under Top 0", replayOf(0), impl.ErrState},
		{"none under MaxSeq", replayOf(9999), impl.ErrState},
	}
	for _, c := range cases {
		t.Run(c.name, func(t *testing.T) { wantFault(t, c.r, c.want) })
	}
}

// By the document any number under NoSeq is ErrRange (it is not 0 to Top), which is told ahead of ErrState.
func TestSomeSeenUnderNoSeq(t *testing.T) {
	for _, seen := range [][]int64{{0}, {-1}, {-2}, {5}, {9999}, {-2, -1}, {0, 0}, {5, 3}, {math.MaxInt64}, {math.MinInt64}} {
		wantFault(t, impl.Replay{Top: impl.NoSeq, Seen: seen}, impl.ErrRange)
	}
}

func TestTwoFaultsOfWindows(t *testing.T) {
	cases := []struct {
		name string
		r    impl.Replay
		want int64
	}{
		{"Top below, and some are seen", replayOf(-2, -2), impl.ErrRange},
		{"Top below, and they fall", replayOf(-2, 5, 3), impl.ErrRange},
		{"Top above, and they fall", replayOf(10000, 9999, 9998, 10000), impl.ErrRange},
		{"Top above, and none is seen", replayOf(10000), impl.ErrRange},
		{"Top far above, and none is seen", replayOf(math.MaxInt64), impl.ErrRange},
		{"the last out of bounds, the first two the same", replayOf(5, 3, 3, 6), impl.ErrRange},
		{"the last too old, and they fall", replayOf(50, 50, 18), impl.ErrRange},
		{"the last below 0, and they fall", replayOf(5, 5, -1), impl.ErrRange},
		{"one above Top, and they fall", replayOf(5, 6, 5), impl.ErrRange},
		{"one too old, and the last is not Top", replayOf(50, 18, 49), impl.ErrRange},
		{"two the same, and the last is not Top", replayOf(5, 3, 3), impl.ErrForm},
		{"they fall from Top", replayOf(5, 5, 3), impl.ErrForm},
		{"they fall, and the last is not Top", replayOf(5, 4, 3), impl.ErrForm},
	}
	for _, c := range cases {
		t.Run(c.name, func(t *testing.T) { wantFault(t, c.r, c.want) })
	}
}

func TestEverySmallWindow(t *testing.T) {
	lists := [][]int64{nil}
	for i := 0; i < len(lists); i++ {
		if len(lists[i]) < 4 {
			for seq := int64(-2); seq <= 5; seq++ {
				lists = append(lists, append(slices.Clone(lists[i]), seq))
			}
		}
	}
	for top := int64(-3); top <= 5; top++ {
		for _, seen := range lists {
			r := impl.Replay{Top: top, Seen: seen}
			want := trueFault(r)
			if code := impl.ReplayFault(r); code != want {
				t.Fatalf("ReplayFault of %+v: code %d; want %d", r, code, want)
			}
			if want != impl.OK {
				wantRefused(t, r, 4, want)
			}
		}
	}
}

func TestWindowsWithVeryMany(t *testing.T) {
	wantFault(t, impl.Replay{Top: 100, Seen: numbersTo(68, 100)}, impl.ErrRange)
	wantFault(t, impl.Replay{Top: 9999, Seen: numbersTo(0, 9999)}, impl.ErrRange)
	wantFault(t, impl.Replay{Top: 0, Seen: make([]int64, 100000)}, impl.ErrForm)
	wantFault(t, impl.Replay{Top: 31, Seen: append(numbersTo(0, 31), 31)}, impl.ErrForm)
	wantFault(t, impl.Replay{Top: impl.NoSeq, Seen: make([]int64, 100000)}, impl.ErrRange)
}

func TestWhatWasTakenIsNotTakenAgain(t *testing.T) {
	for _, seqs := range [][]int64{{0}, {9999}, {5, 3, 4}, {0, 31, 1, 32}, {7, 39, 8, 38}, {100, 69, 9999, 9968}, {0, 5000, 4970, 9999}} {
		r := impl.NewReplay().Replay
		for i, seq := range seqs {
			r = mustTake(t, seqs[:i+1]...)
			wantFault(t, r, impl.OK)
			for _, other := range seqs[:i+1] {
				wantRefused(t, r, other, impl.ErrOld)
			}
			if !slices.Contains(r.Seen, seq) {
				t.Errorf("%d was taken, and is not in %+v", seq, r)
			}
		}
		for seq := r.Top + 1; seq <= impl.MaxSeq; seq++ {
			if code := impl.CheckReplay(r, seq); code != impl.OK {
				t.Fatalf("%d is newer than all of %+v: code %d", seq, r, code)
			}
		}
	}
}

func TestEveryNumberInOrder(t *testing.T) {
	r := impl.NewReplay().Replay
	for seq := range int64(impl.MaxSeq + 1) {
		got := impl.TakeReplay(r, seq)
		if got.Code != impl.OK || !isReplay(got.Replay, seq, numbersTo(max(seq-31, 0), seq)) {
			t.Fatalf("TakeReplay of %d into %+v: %+v", seq, r, got)
		}
		r = got.Replay
	}
	for seq := range int64(impl.MaxSeq + 1) {
		if code := impl.CheckReplay(r, seq); code != impl.ErrOld {
			t.Fatalf("all were taken, but CheckReplay of %d: code %d", seq, code)
		}
	}
}

func TestEveryNumberBackwards(t *testing.T) {
	r := impl.NewReplay().Replay
	for seq := int64(impl.MaxSeq); seq > impl.MaxSeq-32; seq-- {
		wantTaken(t, r, seq, 9999, numbersTo(seq, 9999)...)
		r = impl.TakeReplay(r, seq).Replay
	}
	wantRefused(t, r, impl.MaxSeq-32, impl.ErrOld)
}

// A run goes about its newest number, so that all of these come often: too old, seen already, between others, newer.
func runNumbers(t *testing.T, seed uint64, most int64) {
	random := rand.New(rand.NewPCG(seed, 4))
	var h history
	r := impl.NewReplay().Replay
	for range 150 {
		seq := r.Top - 40 + random.Int64N(most)
		want := h.code(seq)
		got := impl.TakeReplay(r, seq)
		if code := impl.CheckReplay(r, seq); code != want || got.Code != want {
			t.Fatalf("seed %d: %d into %+v: codes %d and %d; want %d", seed, seq, r, code, got.Code, want)
		}
		if want != impl.OK {
			wantReplayFault(t, "TakeReplay in a run", got, want)
			continue
		}
		h.taken = append(h.taken, seq)
		r = got.Replay
		if w := h.window(); !isReplay(r, w.Top, w.Seen) || impl.ReplayFault(r) != impl.OK {
			t.Fatalf("seed %d: behind %d the window is %+v; want %+v", seed, seq, r, w)
		}
	}
}

func TestRunsOfNumbers(t *testing.T) {
	for seed := range uint64(12) {
		runNumbers(t, seed, 42)
		runNumbers(t, seed, 50)
		runNumbers(t, seed, 90)
		runNumbers(t, seed, 800)
	}
}

func TestSameReplays(t *testing.T) {
	// The last ones are no windows: SameReplays asks of any.
	all := []impl.Replay{
		replayOf(-1), replayOf(0, 0), replayOf(5, 5), replayOf(5, 3, 5), replayOf(5, 4, 5), replayOf(5, 3, 4, 5), replayOf(6, 5, 6), replayOf(9999, 9999),
		replayOf(0), replayOf(5), replayOf(6, 3, 5), replayOf(5, 5, 3), replayOf(5, 3), replayOf(5, 3, 5, 5), replayOf(-1, 0), replayOf(-1, -1), replayOf(-2),
		replayOf(math.MinInt64), replayOf(math.MaxInt64), replayOf(5, math.MinInt64), replayOf(5, math.MaxInt64), {Top: 5, Seen: make([]int64, 100000)},
	}
	for i, a := range all {
		for j, b := range all {
			other := impl.Replay{Top: b.Top, Seen: slices.Clone(b.Seen)}
			if impl.SameReplays(a, other) != (i == j) || impl.SameReplays(other, a) != (i == j) {
				t.Errorf("SameReplays of %d and %d is not %v both ways", i, j, i == j)
			}
		}
		if !impl.SameReplays(a, a) {
			t.Errorf("SameReplays of %d and itself is false", i)
		}
	}
}

func TestEmptyListAndNilSeenAlike(t *testing.T) {
	for _, top := range []int64{-1, 0, 5, 9999, -2, 10000} {
		none, empty := impl.Replay{Top: top}, impl.Replay{Top: top, Seen: []int64{}}
		if !impl.SameReplays(none, empty) || !impl.SameReplays(empty, none) {
			t.Errorf("Top %d: nil and an empty list are not the same", top)
		}
		for _, seq := range []int64{-1, 0, 5, 9999, 10000} {
			a, b := impl.TakeReplay(none, seq), impl.TakeReplay(empty, seq)
			if impl.CheckReplay(none, seq) != impl.CheckReplay(empty, seq) || a.Code != b.Code || !isReplay(a.Replay, b.Replay.Top, b.Replay.Seen) {
				t.Errorf("Top %d, number %d: nil and an empty list answer otherwise", top, seq)
			}
		}
		wantFault(t, none, trueFault(none))
		wantFault(t, empty, trueFault(none))
	}
	wantTaken(t, impl.Replay{Top: -1, Seen: []int64{}}, 7, 7, 7)
}

func TestReplayArgumentsStay(t *testing.T) {
	windows := []impl.Replay{
		replayOf(-1), replayOf(0, 0), replayOf(50, 19, 30, 50), {Top: 50, Seen: numbersTo(19, 50)}, {Top: 50, Seen: numbersTo(20, 50)},
		replayOf(-1, 0), replayOf(50, 18, 50), replayOf(50, 50, 30), replayOf(50, 30), replayOf(10000, 10000),
	}
	for _, w := range windows {
		seen := newGuard(w.Seen)
		for _, seq := range append([]int64{0, 18, 19, 20, 31, 50, 51, 60, 82, 9999}, outOfSeqs...) {
			r := impl.Replay{Top: w.Top, Seen: seen.list()}
			impl.ReplayFault(r)
			impl.CheckReplay(r, seq)
			impl.SameReplays(r, r)
			overwrite(impl.TakeReplay(r, seq).Replay.Seen)
			seen.mustBeSame(t, fmt.Sprintf("%d into %+v", seq, w))
		}
	}
}

func TestReplayAnswersAreNew(t *testing.T) {
	overwrite(impl.NewReplay().Replay.Seen)
	wantReplay(t, "NewReplay behind a change of another one", impl.NewReplay(), -1)

	seen := []int64{19, 30, 50}
	r := impl.Replay{Top: 50, Seen: seen}
	between, newer, far := impl.TakeReplay(r, 40), impl.TakeReplay(r, 51), impl.TakeReplay(r, 9999)
	overwrite(impl.TakeReplay(r, 40).Replay.Seen)
	overwrite(impl.TakeReplay(r, 51).Replay.Seen)
	overwrite(seen)
	wantReplay(t, "40 behind a change of all else", between, 50, 19, 30, 40, 50)
	wantReplay(t, "51 behind a change of all else", newer, 51, 30, 50, 51)
	wantReplay(t, "9999 behind a change of all else", far, 9999, 9999)
}

// A number that was taken into one window is taken into the same one again: only the window that came of it has it.
func TestReplayAnswersHangOnArgumentsAlone(t *testing.T) {
	r := replayOf(50, 19, 30, 50)
	for range 20 {
		wantReplay(t, "NewReplay", impl.NewReplay(), -1)
		wantTaken(t, r, 40, 50, 19, 30, 40, 50)
		wantTaken(t, r, 60, 60, 30, 50, 60)
		wantRefused(t, r, 30, impl.ErrOld)
		wantRefused(t, r, 18, impl.ErrOld)
		wantRefused(t, r, 10000, impl.ErrRange)
		wantRefused(t, replayOf(50, 30), 40, impl.ErrState)
		wantFault(t, r, impl.OK)
		// A full window, so that an order which a map gives by chance would be seen.
		wantTaken(t, impl.Replay{Top: 50, Seen: numbersTo(19, 50)}, 51, 51, numbersTo(20, 51)...)
	}
}

func TestReplayAnswersAtOneTime(t *testing.T) {
	r := impl.Replay{Top: 50, Seen: numbersTo(19, 50)}
	var group sync.WaitGroup
	for range 8 {
		group.Go(func() {
			for seq := int64(51); seq < 120; seq++ {
				wantTaken(t, r, seq, seq, append(numbersTo(seq-31, 50), seq)...)
				wantRefused(t, r, seq%51, impl.ErrOld)
			}
		})
	}
	group.Wait()
}
