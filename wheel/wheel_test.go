package wheel

import (
	"cmp"
	"errors"
	"maps"
	"math"
	"math/rand"
	"slices"
	"testing"

	"switchyard/api"
	"switchyard/fail"
)

// wrongIDs are numbers that no timer has.
var wrongIDs = []int{-1, 1001, -1000, 1 << 16, math.MinInt, math.MaxInt}

// wrongSpans are numbers of ticks that neither Set nor Tick takes.
var wrongSpans = []int{-1, api.MaxTime + 1, -api.MaxTime, 2 * api.MaxTime, math.MinInt, math.MaxInt}

// model follows the words of the chapter: a clock, and a time for each id that is set.
type model struct {
	now   int
	times map[int]int
}

func (m *model) set(id, after int) { m.times[id] = min(m.now+after, api.MaxTime) }

func (m *model) cancel(id int) bool {
	_, ok := m.times[id]
	delete(m.times, id)
	return ok
}

func (m *model) tick(n int) []int {
	m.now = min(m.now+n, api.MaxTime)
	var due []int
	for id, at := range m.times {
		if at <= m.now {
			due = append(due, id)
		}
	}
	slices.SortFunc(due, func(a, b int) int {
		return cmp.Or(cmp.Compare(m.times[a], m.times[b]), cmp.Compare(a, b))
	})
	for _, id := range due {
		delete(m.times, id)
	}
	return due
}

// wantState checks all that a Wheel tells of itself.
func wantState(t *testing.T, what string, w *Wheel, now int, times map[int]int) {
	t.Helper()
	if got := w.Now(); got != now {
		t.Errorf("%s: Now is %d, not %d", what, got, now)
	}
	if got, want := w.List(), slices.Sorted(maps.Keys(times)); !slices.Equal(got, want) {
		t.Errorf("%s: List is %v, not %v", what, got, want)
	}
	for id := -2; id <= 1002; id++ {
		want, set := times[id]
		if at, ok := w.At(id); at != want || ok != set {
			t.Errorf("%s: At(%d) is %d, %t, not %d, %t", what, id, at, ok, want, set)
		}
	}
	earliest := 0
	if len(times) > 0 {
		earliest = slices.Min(slices.Collect(maps.Values(times)))
	}
	if at, ok := w.Next(); at != earliest || ok != (len(times) > 0) {
		t.Errorf("%s: Next is %d, %t, not %d, %t", what, at, ok, earliest, len(times) > 0)
	}
}

// wantFault checks that err is ErrRange wrapped once, by wheel and the place.
func wantFault(t *testing.T, what string, err error, place int) {
	t.Helper()
	var f *fail.Fail
	if !errors.As(err, &f) || *f != (fail.Fail{Where: "wheel", Place: place, Err: api.ErrRange}) {
		t.Errorf("%s: %v, not wheel %d: %v", what, err, place, api.ErrRange)
	}
}

// set sets timers by pairs of an id and a number of ticks.
func set(t *testing.T, w *Wheel, pairs ...[2]int) {
	t.Helper()
	for _, p := range pairs {
		if err := w.Set(p[0], p[1]); err != nil {
			t.Fatalf("Set(%d, %d): %v", p[0], p[1], err)
		}
	}
}

// tick ticks without an error.
func tick(t *testing.T, w *Wheel, n int) []int {
	t.Helper()
	ids, err := w.Tick(n)
	if err != nil {
		t.Fatalf("Tick(%d): %v", n, err)
	}
	return ids
}

// wantTick checks what one Tick returns.
func wantTick(t *testing.T, w *Wheel, n int, want ...int) {
	t.Helper()
	if got := tick(t, w, n); !slices.Equal(got, want) {
		t.Errorf("Tick(%d) is %v, not %v", n, got, want)
	}
}

// filled is a Wheel at time 10 with four timers, and what it should tell.
func filled(t *testing.T) (*Wheel, int, map[int]int) {
	t.Helper()
	w := New()
	wantTick(t, w, 10)
	set(t, w, [2]int{7, 5}, [2]int{0, 5}, [2]int{1000, 0}, [2]int{3, api.MaxTime})
	return w, 10, map[int]int{7: 15, 0: 15, 1000: 10, 3: api.MaxTime}
}

func TestNewIsAtZeroWithoutTimers(t *testing.T) { // P4.1
	wantState(t, "new", New(), 0, nil)
	first, second := New(), New()
	set(t, first, [2]int{1, 1})
	wantTick(t, first, 1, 1)
	set(t, first, [2]int{2, 3})
	wantState(t, "beside another", second, 0, nil)
	wantState(t, "new again", New(), 0, nil)
}

func TestExamplesOfTheChapter(t *testing.T) { // P4.1, P4.2
	w := New()
	set(t, w, [2]int{2, 9})
	if at, ok := w.At(2); at != 9 || !ok {
		t.Errorf("At(2) is %d, %t", at, ok)
	}
	w = New()
	set(t, w, [2]int{3, 5}, [2]int{1, 5}, [2]int{2, 9})
	o := w.Copy()
	wantTick(t, o, 4)
	wantTick(t, o, 1, 1, 3)
	wantTick(t, w, 5, 1, 3)
	wantTick(t, w, 3)
	wantTick(t, w, 1, 2)
	wantState(t, "after the examples", w, 9, nil)
}

func TestSetAtTheEdges(t *testing.T) { // P4.1
	for _, id := range []int{0, 1, 999, 1000} {
		for _, after := range []int{0, 1, 2, api.MaxTime - 1, api.MaxTime} {
			w := New()
			set(t, w, [2]int{id, after})
			wantState(t, "set", w, 0, map[int]int{id: after})
		}
	}
}

func TestSetCountsFromTheCurrentTime(t *testing.T) { // P4.1
	w := New()
	wantTick(t, w, 100)
	set(t, w, [2]int{4, 0}, [2]int{5, 1}, [2]int{6, 100})
	wantState(t, "at 100", w, 100, map[int]int{4: 100, 5: 101, 6: 200})
	wantTick(t, w, 50, 4, 5)
	set(t, w, [2]int{4, 7})
	wantState(t, "at 150", w, 150, map[int]int{4: 157, 6: 200})
}

func TestSetIsDueAtMaxTimeAtTheLatest(t *testing.T) { // P4.1
	w := New()
	wantTick(t, w, 3)
	set(t, w, [2]int{1, api.MaxTime - 4}, [2]int{2, api.MaxTime - 3}, [2]int{3, api.MaxTime - 2}, [2]int{4, api.MaxTime})
	wantState(t, "at 3", w, 3, map[int]int{1: api.MaxTime - 1, 2: api.MaxTime, 3: api.MaxTime, 4: api.MaxTime})
	wantTick(t, w, api.MaxTime-3, 1, 2, 3, 4)
	set(t, w, [2]int{9, api.MaxTime}, [2]int{8, 0}, [2]int{7, 1})
	wantState(t, "at MaxTime", w, api.MaxTime, map[int]int{7: api.MaxTime, 8: api.MaxTime, 9: api.MaxTime})
	wantTick(t, w, 0, 7, 8, 9)
}

func TestSetReplacesATimer(t *testing.T) { // P4.1
	for _, after := range []int{0, 1, 4, 5, 6, 9, 20, api.MaxTime} {
		w := New()
		set(t, w, [2]int{1, 5}, [2]int{2, 5}, [2]int{3, 9}, [2]int{2, after})
		wantState(t, "set anew", w, 0, map[int]int{1: 5, 2: after, 3: 9})
		ids := tick(t, w, api.MaxTime)
		slices.Sort(ids)
		if !slices.Equal(ids, []int{1, 2, 3}) {
			t.Errorf("set anew with %d: %v", after, ids)
		}
	}
	w := New()
	set(t, w, [2]int{6, 2})
	wantTick(t, w, 1)
	set(t, w, [2]int{6, 2})
	wantTick(t, w, 1)
	wantTick(t, w, 1, 6)
	wantTick(t, w, 1)
}

func TestSetOfWrongNumbersChangesNothing(t *testing.T) { // P4.1, P0.2
	w, now, times := filled(t)
	for _, id := range wrongIDs {
		for _, after := range []int{0, 5, api.MaxTime} {
			wantFault(t, "a wrong id", w.Set(id, after), id)
		}
		for _, after := range wrongSpans {
			wantFault(t, "a wrong id and a wrong after", w.Set(id, after), id)
		}
	}
	for _, id := range []int{0, 3, 4, 7, 1000} {
		for _, after := range wrongSpans {
			wantFault(t, "a wrong after", w.Set(id, after), id)
		}
	}
	wantState(t, "after wrong calls", w, now, times)
}

func TestCancel(t *testing.T) { // P4.1
	_, _, all := filled(t)
	for id := range all {
		w, now, times := filled(t)
		if !w.Cancel(id) {
			t.Errorf("Cancel(%d) of a timer that is set is false", id)
		}
		delete(times, id)
		wantState(t, "cancelled", w, now, times)
		if w.Cancel(id) {
			t.Errorf("Cancel(%d) of a cancelled timer is true", id)
		}
		wantState(t, "cancelled twice", w, now, times)
		if slices.Contains(tick(t, w, api.MaxTime), id) {
			t.Errorf("Tick returns the cancelled timer %d", id)
		}
	}
}

func TestCancelOfATimerThatIsNotSet(t *testing.T) { // P4.1
	if New().Cancel(0) {
		t.Error("Cancel(0) of a new Wheel is true")
	}
	w, now, times := filled(t)
	for _, id := range append([]int{1, 2, 999}, wrongIDs...) {
		if w.Cancel(id) {
			t.Errorf("Cancel(%d) is true", id)
		}
	}
	wantState(t, "after cancelling what is not set", w, now, times)
	wantTick(t, w, 0, 1000)
	if w.Cancel(1000) {
		t.Error("Cancel of a timer that Tick returned is true")
	}
	set(t, w, [2]int{1000, 1})
	if !w.Cancel(1000) {
		t.Error("Cancel of a timer that was set again is false")
	}
}

func TestAtOfATimerThatIsNotSet(t *testing.T) { // P4.1
	w, _, _ := filled(t)
	for _, id := range append([]int{1, 2, 999}, wrongIDs...) {
		if at, ok := w.At(id); at != 0 || ok {
			t.Errorf("At(%d) is %d, %t", id, at, ok)
		}
	}
	wantTick(t, w, 5, 1000, 0, 7)
	for _, id := range []int{1000, 0, 7} {
		if at, ok := w.At(id); at != 0 || ok {
			t.Errorf("At(%d) behind its Tick is %d, %t", id, at, ok)
		}
	}
}

func TestNextIsTheEarliestTime(t *testing.T) { // P4.1
	w := New()
	for _, step := range []struct{ id, after, want int }{{5, 40, 40}, {6, 50, 40}, {4, 30, 30}, {3, 30, 30}, {5, 0, 0}, {5, 60, 30}} {
		set(t, w, [2]int{step.id, step.after})
		if at, ok := w.Next(); at != step.want || !ok {
			t.Errorf("Next is %d, %t, not %d", at, ok, step.want)
		}
	}
	w.Cancel(3)
	w.Cancel(4)
	if at, ok := w.Next(); at != 50 || !ok {
		t.Errorf("Next is %d, %t, not 50", at, ok)
	}
	wantTick(t, w, 50, 6)
	if at, ok := w.Next(); at != 60 || !ok {
		t.Errorf("Next is %d, %t, not 60", at, ok)
	}
	w.Cancel(5)
	if at, ok := w.Next(); at != 0 || ok {
		t.Errorf("Next without timers is %d, %t", at, ok)
	}
}

func TestTickMovesTheClock(t *testing.T) { // P4.2
	w := New()
	now := 0
	for _, n := range []int{0, 1, 2, 0, 1000, 1 << 33} {
		wantTick(t, w, n)
		now += n
		if w.Now() != now {
			t.Errorf("Tick(%d): Now is %d, not %d", n, w.Now(), now)
		}
	}
}

func TestTheClockStopsAtMaxTime(t *testing.T) { // P4.2
	for _, ticks := range [][]int{{api.MaxTime}, {api.MaxTime - 1, 1}, {api.MaxTime - 1, 2}, {1, api.MaxTime}, {api.MaxTime, api.MaxTime}, {api.MaxTime, 1}, {api.MaxTime, 0}} {
		w := New()
		for _, n := range ticks {
			wantTick(t, w, n)
		}
		wantState(t, "at the end", w, api.MaxTime, nil)
	}
	w := New()
	wantTick(t, w, api.MaxTime-1)
	wantState(t, "before the end", w, api.MaxTime-1, nil)
}

func TestTickReturnsWhatIsDue(t *testing.T) { // P4.2
	for _, c := range []struct {
		n    int
		want []int
		left map[int]int
	}{
		{0, []int{8}, map[int]int{4: 1, 9: 2, 2: 2, 5: 3, 1: api.MaxTime}},
		{1, []int{8, 4}, map[int]int{9: 2, 2: 2, 5: 3, 1: api.MaxTime}},
		{2, []int{8, 4, 2, 9}, map[int]int{5: 3, 1: api.MaxTime}},
		{3, []int{8, 4, 2, 9, 5}, map[int]int{1: api.MaxTime}},
		{api.MaxTime - 1, []int{8, 4, 2, 9, 5}, map[int]int{1: api.MaxTime}},
		{api.MaxTime, []int{8, 4, 2, 9, 5, 1}, nil},
	} {
		w := New()
		set(t, w, [2]int{9, 2}, [2]int{1, api.MaxTime}, [2]int{5, 3}, [2]int{4, 1}, [2]int{2, 2}, [2]int{8, 0})
		wantTick(t, w, c.n, c.want...)
		wantState(t, "after a Tick", w, c.n, c.left)
		wantTick(t, w, 0)
	}
}

func TestTimersDueAtOneTimeComeById(t *testing.T) { // P4.2
	w := New()
	var want []int
	for i := range 1001 {
		set(t, w, [2]int{i * 5 % 1001, 20})
		want = append(want, i)
	}
	wantTick(t, w, 19)
	wantTick(t, w, 1, want...)
}

func TestAllTimersAtOnce(t *testing.T) { // P4.1, P4.2
	w, times := New(), map[int]int{}
	var want []int
	for i := range 1001 {
		id := i * 5 % 1001
		set(t, w, [2]int{id, 1000 - id})
		times[id] = 1000 - id
		want = append(want, 1000-i)
	}
	wantState(t, "all are set", w, 0, times)
	wantTick(t, w, 1000, want...)
	wantState(t, "none is left", w, 1000, nil)
}

func TestATimerDueAtOnceWaitsForATick(t *testing.T) { // P4.1, P4.2
	w := New()
	wantTick(t, w, 4)
	set(t, w, [2]int{3, 1}, [2]int{5, 0}, [2]int{2, 0})
	wantState(t, "before the Tick", w, 4, map[int]int{3: 5, 5: 4, 2: 4})
	wantTick(t, w, 0, 2, 5)
	wantTick(t, w, 0)
	set(t, w, [2]int{9, 0})
	wantTick(t, w, 1, 9, 3)
}

func TestTickOfWrongNumbersChangesNothing(t *testing.T) { // P4.2, P0.2, P0.3
	w, now, times := filled(t)
	for _, n := range wrongSpans {
		ids, err := w.Tick(n)
		wantFault(t, "a wrong n", err, n)
		if len(ids) > 0 {
			t.Errorf("Tick(%d): %v beside an error", n, ids)
		}
	}
	wantState(t, "after wrong calls", w, now, times)
	wantTick(t, w, 0, 1000)
}

func TestWithoutTimers(t *testing.T) { // P4.2
	w := New()
	for _, n := range []int{0, 1, 77, api.MaxTime} {
		wantTick(t, w, n)
		if ids := w.List(); len(ids) > 0 {
			t.Errorf("List without timers is %v", ids)
		}
	}
}

func TestListIsById(t *testing.T) { // P4.2
	w := New()
	set(t, w, [2]int{1000, 1}, [2]int{10, 2}, [2]int{9, 3}, [2]int{0, 4}, [2]int{10, 9})
	for range 2 {
		if ids := w.List(); !slices.Equal(ids, []int{0, 9, 10, 1000}) {
			t.Errorf("List is %v", ids)
		}
	}
	wantTick(t, w, 9, 1000, 9, 0, 10) // List has not put the timers in another order
}

// changes are calls that change a Wheel that filled makes.
var changes = []struct {
	name   string
	change func(*Wheel)
}{
	{"Set", func(w *Wheel) { w.Set(500, 1) }},
	{"Set of the first", func(w *Wheel) { w.Set(500, 0) }},
	{"Set anew", func(w *Wheel) { w.Set(7, 77) }},
	{"Cancel", func(w *Wheel) { w.Cancel(1000) }},
	{"Cancel and Set", func(w *Wheel) { w.Cancel(3); w.Set(3, 33) }},
	{"Tick", func(w *Wheel) { w.Tick(5) }},
	{"Tick to the end", func(w *Wheel) { w.Tick(api.MaxTime) }},
	{"Tick and Set", func(w *Wheel) { w.Tick(api.MaxTime); w.Set(1, 0); w.Set(2, 0) }},
}

func TestCopyIsTheSame(t *testing.T) { // P4.2
	wantState(t, "the copy of a new one", New().Copy(), 0, nil)
	w, now, times := filled(t)
	c := w.Copy()
	wantState(t, "the copy", c, now, times)
	wantState(t, "the copy of the copy", c.Copy(), now, times)
	for _, n := range []int{4, 1, api.MaxTime} {
		if a, b := tick(t, w, n), tick(t, c, n); !slices.Equal(a, b) {
			t.Errorf("Tick(%d): %v, and %v of the copy", n, a, b)
		}
	}
}

func TestCopyAndOriginalChangeApart(t *testing.T) { // P4.2
	for _, c := range changes {
		w, now, times := filled(t)
		c.change(w.Copy())
		wantState(t, c.name+" of the copy, at the original", w, now, times)
		wantTick(t, w, 5, 1000, 0, 7)
	}
	for _, c := range changes {
		w, now, times := filled(t)
		o := w.Copy()
		c.change(w)
		wantState(t, c.name+" of the original, at the copy", o, now, times)
		wantTick(t, o, 5, 1000, 0, 7)
	}
	w := New()
	o := w.Copy()
	set(t, w, [2]int{1, 1})
	set(t, o, [2]int{2, 2})
	wantState(t, "the original that was empty", w, 0, map[int]int{1: 1})
	wantState(t, "the copy that was empty", o, 0, map[int]int{2: 2})
}

func TestCopiesWithSpareMemoryChangeApart(t *testing.T) { // P4.2, P0.4
	for size := range 20 {
		w, times := New(), map[int]int{}
		for id := range size {
			set(t, w, [2]int{id, 10})
			times[id] = 10
		}
		a, b := w.Copy(), w.Copy()
		for i, each := range []*Wheel{w, a, b} {
			set(t, each, [2]int{100 + i, 10})
		}
		for i, each := range []*Wheel{w, a, b} {
			times[100+i] = 10
			wantState(t, "one of three", each, 0, times)
			delete(times, 100+i)
		}
	}
}

// spoil writes over a list and over its spare capacity, and appends to it.
func spoil(ids []int) {
	ids = ids[:cap(ids)]
	for i := range ids {
		ids[i] = -7
	}
	_ = append(ids[:0], 1, 2, 3)
}

func TestReturnedListsAreNotShared(t *testing.T) { // P0.4
	w, now, times := filled(t)
	early, late := w.List(), w.List()
	spoil(early)
	if !slices.Equal(late, []int{0, 3, 7, 1000}) {
		t.Errorf("a spoilt list shows in another: %v", late)
	}
	wantState(t, "beside a spoilt list", w, now, times)
	first := tick(t, w, 0)
	second := tick(t, w, 5)
	spoil(second)
	if !slices.Equal(first, []int{1000}) {
		t.Errorf("a spoilt list shows in an earlier one: %v", first)
	}
	spoil(first)
	wantState(t, "beside spoilt ids", w, 15, map[int]int{3: api.MaxTime})
	set(t, w, [2]int{8, 1}, [2]int{9, 2})
	third := tick(t, w, 1)
	kept := w.List()
	set(t, w, [2]int{10, 1}, [2]int{8, 0})
	w.Cancel(9)
	tick(t, w, 1)
	if !slices.Equal(third, []int{8}) || !slices.Equal(kept, []int{3, 9}) {
		t.Errorf("later calls show in earlier lists: %v, %v", third, kept)
	}
}

func TestAskingChangesNothing(t *testing.T) { // P0.5
	w, now, times := filled(t)
	for range 3 {
		wantState(t, "asked again", w, now, times)
		w.Copy()
	}
}

// spread sets up to nine timers of few ids at few times, some of them due at once.
func spread(r *rand.Rand, w *Wheel) {
	w.Tick(r.Intn(4))
	for range r.Intn(10) {
		w.Set(r.Intn(8), r.Intn(12))
	}
}

func TestTicksOneByOneAreOneTick(t *testing.T) { // P4.3
	r := rand.New(rand.NewSource(1))
	for range 2000 {
		one := New()
		spread(r, one)
		many := one.Copy()
		n := 1 + r.Intn(14)
		var got []int
		for range n {
			got = append(got, tick(t, many, 1)...)
		}
		if want := tick(t, one, n); !slices.Equal(got, want) {
			t.Fatalf("%d ticks: %v, not %v", n, got, want)
		}
		if many.Now() != one.Now() || !slices.Equal(many.List(), one.List()) {
			t.Fatalf("%d ticks: %d, %v, not %d, %v", n, many.Now(), many.List(), one.Now(), one.List())
		}
	}
}

func TestTimersAlreadyDueComeFirst(t *testing.T) { // P4.3
	for _, ticks := range [][]int{{3}, {1, 1, 1}, {0, 3}, {2, 0, 1}} {
		w := New()
		wantTick(t, w, 6)
		set(t, w, [2]int{1, 1}, [2]int{2, 3}, [2]int{0, 2}, [2]int{9, 0}, [2]int{8, 0})
		var got []int
		for _, n := range ticks {
			got = append(got, tick(t, w, n)...)
		}
		if !slices.Equal(got, []int{8, 9, 1, 0, 2}) {
			t.Errorf("ticks %v: %v", ticks, got)
		}
	}
}

func TestTicksAcrossTheEndOfTime(t *testing.T) { // P4.3
	start := New()
	wantTick(t, start, api.MaxTime-2)
	set(t, start, [2]int{5, 9}, [2]int{6, 1}, [2]int{4, 2}, [2]int{7, 0})
	for _, ticks := range [][]int{{4}, {1, 1, 1, 1}, {2, 2}, {api.MaxTime}} {
		w := start.Copy()
		var got []int
		for _, n := range ticks {
			got = append(got, tick(t, w, n)...)
		}
		if !slices.Equal(got, []int{7, 6, 4, 5}) || w.Now() != api.MaxTime {
			t.Errorf("ticks %v: %v at %d", ticks, got, w.Now())
		}
	}
}

func TestEveryTimerComesOnceAndAtItsTime(t *testing.T) { // P4.3
	r := rand.New(rand.NewSource(2))
	for range 500 {
		w := New()
		spread(r, w)
		due := map[int]int{}
		for _, id := range w.List() {
			due[id], _ = w.At(id)
		}
		for range 20 {
			for _, id := range tick(t, w, r.Intn(3)) {
				at, ok := due[id]
				if !ok || at > w.Now() {
					t.Fatalf("timer %d at %d: due at %d, %t", id, w.Now(), at, ok)
				}
				delete(due, id)
			}
			for id, at := range due {
				if at <= w.Now() {
					t.Fatalf("timer %d is late: due at %d, now %d", id, at, w.Now())
				}
			}
		}
	}
}

// spans are numbers of ticks for calls at random: mostly few, sometimes up to the end of time.
func spans(r *rand.Rand) int {
	if r.Intn(40) == 0 {
		return r.Intn(api.MaxTime + 1)
	}
	return r.Intn(15)
}

func TestCallsAtRandom(t *testing.T) { // P4.1, P4.2, P4.3
	for seed := range int64(30) {
		r := rand.New(rand.NewSource(seed))
		w, m := New(), &model{times: map[int]int{}}
		for range 150 {
			id, n := r.Intn(12), spans(r)
			switch r.Intn(5) {
			case 0, 1:
				set(t, w, [2]int{id, n})
				m.set(id, n)
			case 2:
				if got, want := w.Cancel(id), m.cancel(id); got != want {
					t.Fatalf("seed %d: Cancel(%d) is %t", seed, id, got)
				}
			case 3:
				w = w.Copy()
			case 4:
				if got, want := tick(t, w, n), m.tick(n); !slices.Equal(got, want) {
					t.Fatalf("seed %d: Tick(%d) is %v, not %v", seed, n, got, want)
				}
			}
			wantState(t, "at random", w, m.now, m.times)
		}
	}
}
