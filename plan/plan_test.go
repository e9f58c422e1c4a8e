package plan

import (
	"cmp"
	"errors"
	"math"
	"math/rand"
	"slices"
	"testing"

	"switchyard/api"
	"switchyard/fail"
)

// wrongIntervals are numbers that no poll has as its interval; some of them are one in their lowest bytes.
var wrongIntervals = []int{0, 10001, -1, -2, -5, -9999, -10000, -10001, 10002, 20000, 65536, 65537, 1 << 32, 1<<32 + 1, -1<<32 + 1, math.MinInt, math.MinInt + 1, math.MaxInt - 1, math.MaxInt}

// wrongTimes are times at which no poll can be done.
var wrongTimes = []int{-1, api.MaxTime + 1, -2, -5, -api.MaxTime, api.MaxTime + 2, 2 * api.MaxTime, 1 << 62, math.MinInt, math.MinInt + 1, math.MaxInt - 1, math.MaxInt}

// farIndexes are indexes of no poll, in whatever plan; some of them are one in their lowest bytes.
var farIndexes = []int{-1, -2, -15, -16, -17, 16, 17, 100, 255, 256, -256, 65536, 1 << 32, 1<<32 + 1, -1 << 32, math.MinInt, math.MinInt + 1, math.MaxInt - 1, math.MaxInt}

// edgeTimes are times about which Next is asked everywhere.
var edgeTimes = []int{math.MinInt, math.MinInt + 1, -api.MaxTime, -10001, -10000, -1, 0, 1, api.MaxTime - 1, api.MaxTime, api.MaxTime + 1, api.MaxTime + 10000, api.MaxTime + 10001, math.MaxInt - 1, math.MaxInt}

// model follows the words of the chapter.
type model struct{ every, due []int }

func modelOf(every []int) *model {
	return &model{every: slices.Clone(every), due: make([]int, len(every))}
}

// next puts the polls in the order in which they are chosen, and takes the first one that is due.
func (m *model) next(now int) (int, bool) {
	order := make([]int, len(m.due))
	for i := range order {
		order[i] = i
	}
	slices.SortFunc(order, func(a, b int) int {
		return cmp.Or(cmp.Compare(m.due[a], m.due[b]), cmp.Compare(a, b))
	})
	for _, i := range order {
		if m.due[i] <= now {
			return i, true
		}
	}
	return 0, false
}

func (m *model) done(i, now int) { m.due[i] = now + m.every[i] }

func (m *model) copied() *model {
	return &model{slices.Clone(m.every), slices.Clone(m.due)}
}

// planned is a plan that New has to accept.
func planned(t *testing.T, every ...int) *Plan {
	t.Helper()
	p, err := New(every)
	if err != nil || p == nil {
		t.Fatalf("New(%v): %v", every, err)
	}
	return p
}

// done is Done, which has to succeed.
func done(t *testing.T, p *Plan, i, now int) {
	t.Helper()
	if err := p.Done(i, now); err != nil {
		t.Fatalf("Done(%d, %d): %v", i, now, err)
	}
}

// wantFault checks that err is the code wrapped once, by plan and the place.
func wantFault(t *testing.T, what string, err error, place int, code api.Code) {
	t.Helper()
	var f *fail.Fail
	if !errors.As(err, &f) || error(f) != err || *f != (fail.Fail{Where: "plan", Place: place, Err: code}) {
		t.Errorf("%s: %v, not plan %d: %v", what, err, place, code)
	}
}

func wantRefused(t *testing.T, every []int, place int, code api.Code) {
	t.Helper()
	p, err := New(every)
	wantFault(t, "New", err, place, code)
	if p != nil {
		t.Errorf("New(%v): a plan beside an error", every)
	}
}

func wantNext(t *testing.T, p *Plan, now, want int) {
	t.Helper()
	if i, ok := p.Next(now); i != want || !ok {
		t.Errorf("Next(%d) is %d, %t, not %d", now, i, ok, want)
	}
}

func wantNone(t *testing.T, p *Plan, times ...int) {
	t.Helper()
	for _, now := range times {
		if i, ok := p.Next(now); i != 0 || ok {
			t.Errorf("Next(%d) is %d, %t, not 0, false", now, i, ok)
		}
	}
}

// wantState checks all that a Plan tells of itself: what Next answers changes at the times that polls are due at.
func wantState(t *testing.T, what string, p *Plan, m *model) {
	t.Helper()
	if p.Len() != len(m.due) {
		t.Fatalf("%s: Len is %d, not %d", what, p.Len(), len(m.due))
	}
	for i, want := range m.due {
		if at, ok := p.Due(i); at != want || !ok {
			t.Errorf("%s: Due(%d) is %d, %t, not %d", what, i, at, ok, want)
		}
	}
	for _, i := range append([]int{len(m.due)}, farIndexes...) {
		if at, ok := p.Due(i); at != 0 || ok {
			t.Errorf("%s: Due(%d) is %d, %t, not 0, false", what, i, at, ok)
		}
	}
	times := slices.Clone(edgeTimes)
	for _, at := range m.due {
		times = append(times, at-1, at, at+1)
	}
	for _, now := range times {
		i, ok := p.Next(now)
		if want, found := m.next(now); i != want || ok != found {
			t.Errorf("%s: Next(%d) is %d, %t, not %d, %t", what, now, i, ok, want, found)
		}
	}
}

// spread is a plan of four polls that are due at four times, and what it should tell.
func spread(t *testing.T) (*Plan, *model) {
	t.Helper()
	every, at := []int{7, 5, 1, 10000}, []int{30, 10, 20, 0}
	p, m := planned(t, every...), modelOf(every)
	for i, now := range at {
		done(t, p, i, now)
		m.done(i, now)
	}
	wantState(t, "spread", p, m)
	return p, m
}

// same is n times the interval every.
func same(n, every int) []int { return slices.Repeat([]int{every}, n) }

func TestExamplesOfTheChapter(t *testing.T) { // P9.1
	p := planned(t, 5, 3)
	wantNext(t, p, 0, 0)
	done(t, p, 0, 0)
	wantNext(t, p, 0, 1)
	done(t, p, 1, 0)
	wantNone(t, p, 0)
	wantNext(t, p, 3, 1)
	wantState(t, "after the examples", p, &model{[]int{5, 3}, []int{5, 3}})
}

func TestNewOfEveryLength(t *testing.T) { // P9.1
	for n := range api.MaxPolls + 1 {
		for _, interval := range []int{1, 2, 77, 9999, 10000} {
			wantState(t, "new", planned(t, same(n, interval)...), modelOf(same(n, interval)))
		}
	}
}

func TestNewOfEveryInterval(t *testing.T) { // P9.1
	for interval := 1; interval <= 10000; interval++ {
		p := planned(t, interval)
		if at, ok := p.Due(0); at != 0 || !ok {
			t.Fatalf("Due(0) of a new plan is %d, %t", at, ok)
		}
		done(t, p, 0, 4)
		if at, _ := p.Due(0); at != 4+interval {
			t.Fatalf("the interval %d: done at 4, due at %d", interval, at)
		}
	}
}

func TestNewOfNothing(t *testing.T) { // P9.1
	for _, every := range [][]int{nil, {}, []int{0, 1, 2}[:0]} {
		p := planned(t, every...)
		wantState(t, "no polls", p, modelOf(nil))
		for _, now := range []int{-1, 0, api.MaxTime, api.MaxTime + 1} {
			wantFault(t, "Done of no polls", p.Done(0, now), 0, api.ErrNone)
			wantFault(t, "Done of no polls", p.Done(-1, now), -1, api.ErrNone)
		}
		wantState(t, "the copy of no polls", p.Copy(), modelOf(nil))
	}
}

func TestNewOfTooManyPolls(t *testing.T) { // P9.1
	for _, n := range []int{17, 18, 31, 32, 33, 255, 256, 257, 272, 65536, 65537, 1 << 20} {
		for _, interval := range []int{1, 3, 10000} {
			wantRefused(t, same(n, interval), api.MaxPolls, api.ErrLong)
		}
		// The number of the polls counts ahead of their intervals.
		for _, interval := range wrongIntervals {
			wantRefused(t, same(n, interval), api.MaxPolls, api.ErrLong)
		}
		for _, place := range []int{0, 1, 15, 16, n - 1} {
			every := same(n, 8)
			every[place] = 0
			wantRefused(t, every, api.MaxPolls, api.ErrLong)
		}
	}
}

func TestNewOfWrongIntervals(t *testing.T) { // P9.1
	for n := 1; n <= api.MaxPolls; n++ {
		for place := range n {
			for _, interval := range wrongIntervals {
				every := same(n, 1+9999*(place%2))
				every[place] = interval
				wantRefused(t, every, place, api.ErrRange)
			}
		}
	}
}

func TestNewTellsTheFirstWrongInterval(t *testing.T) { // P9.1
	for first := range api.MaxPolls {
		for second := first + 1; second < api.MaxPolls; second++ {
			for _, pair := range [][2]int{{0, 10001}, {10001, 0}, {-1, math.MinInt}, {math.MaxInt, -1}, {0, 0}} {
				every := same(api.MaxPolls, 10000)
				every[first], every[second] = pair[0], pair[1]
				wantRefused(t, every, first, api.ErrRange)
			}
		}
	}
	wantRefused(t, same(api.MaxPolls, 0), 0, api.ErrRange)
	wantRefused(t, []int{1, 10000, 0, 10001}, 2, api.ErrRange)
}

func TestPlansAreOfTheirOwn(t *testing.T) { // P9.1
	first, second := planned(t, 5, 3), planned(t, 5, 3)
	done(t, first, 0, 9)
	wantState(t, "beside another", second, modelOf([]int{5, 3}))
	wantState(t, "the other", first, &model{[]int{5, 3}, []int{14, 0}})
	wantState(t, "new again", planned(t, 5, 3), modelOf([]int{5, 3}))
}

func TestNextOfOnePoll(t *testing.T) { // P9.1
	p := planned(t, 10)
	wantNone(t, p, -1, -2, -10, math.MinInt)
	for _, now := range []int{0, 1, 9, 10, 11, api.MaxTime, api.MaxTime + 1, math.MaxInt} {
		wantNext(t, p, now, 0)
	}
	done(t, p, 0, 20)
	wantNone(t, p, -1, 0, 10, 20, 29)
	for _, now := range []int{30, 31, 1000, api.MaxTime, math.MaxInt} {
		wantNext(t, p, now, 0)
	}
}

func TestNextIsTheEarliestThatIsDue(t *testing.T) { // P9.1
	p, _ := spread(t)
	// They are due at 37, 15, 21 and 10000.
	wantNone(t, p, 0, 14)
	for _, now := range []int{15, 20, 21, 22, 37, 38, 9999, 10000, 10001, api.MaxTime} {
		wantNext(t, p, now, 1)
	}
	done(t, p, 1, 15) // 20
	wantNext(t, p, 20, 1)
	done(t, p, 1, 20) // 25
	wantNone(t, p, 20)
	wantNext(t, p, 21, 2)
	wantNext(t, p, 25, 2)
	done(t, p, 2, 25) // 26
	wantNext(t, p, 25, 1)
	wantNext(t, p, 10000, 1)
	done(t, p, 1, 10000) // 10005
	wantNext(t, p, 10000, 2)
	done(t, p, 2, 10000) // 10001
	wantNext(t, p, 10000, 0)
	done(t, p, 0, 10000) // 10007
	wantNext(t, p, 10000, 3)
	done(t, p, 3, 10000)
	wantNone(t, p, 10000)
}

func TestNextOfEveryOrder(t *testing.T) { // P9.1
	eachOrder([]int{11, 12, 13, 14, 15}, 0, func(at []int) {
		p, m := planned(t, same(5, 1)...), modelOf(same(5, 1))
		for i, now := range at {
			done(t, p, i, now-1)
			m.done(i, now-1)
		}
		wantState(t, "an order of five", p, m)
		for _, want := range []int{11, 12, 13, 14, 15} {
			wantNext(t, p, 15, slices.Index(at, want))
			done(t, p, slices.Index(at, want), 100)
		}
		wantNone(t, p, 15, 100)
	})
}

// eachOrder hands each order of the list from place on to use.
func eachOrder(list []int, place int, use func([]int)) {
	if place == len(list) {
		use(list)
		return
	}
	for i := place; i < len(list); i++ {
		list[place], list[i] = list[i], list[place]
		eachOrder(list, place+1, use)
		list[place], list[i] = list[i], list[place]
	}
}

func TestNextOfSeveralAtOneTimeIsTheLowestIndex(t *testing.T) { // P9.1
	// The polls of each set are due at 50, and the other ones at another time.
	for set := 1; set < 1<<6; set++ {
		for _, other := range []int{40, 60} {
			p, lowest := planned(t, 1, 2, 3, 4, 5, 6), -1
			for i := range 6 {
				at := other
				if set>>i&1 == 1 {
					at = 50
				}
				if at == min(50, other) && lowest < 0 {
					lowest = i
				}
				done(t, p, i, at-i-1)
			}
			if lowest < 0 {
				lowest = 0 // All of them are due at 50.
			}
			wantNext(t, p, 60, lowest)
			wantNext(t, p, math.MaxInt, lowest)
		}
	}
}

func TestNextOfAllAtOneTime(t *testing.T) { // P9.1
	for n := 1; n <= api.MaxPolls; n++ {
		p := planned(t, same(n, 9)...)
		for _, now := range []int{0, 9, 18, 1000} {
			for i := range n {
				wantNext(t, p, now, i)
				done(t, p, i, now)
			}
			wantNone(t, p, now, now+8)
		}
	}
}

func TestNextAtMaxTimeAndBeyond(t *testing.T) { // P9.1
	p := planned(t, 1, 10000, 2)
	for i := range 3 {
		done(t, p, i, api.MaxTime)
	}
	wantNone(t, p, -1, 0, api.MaxTime-1, api.MaxTime)
	wantNext(t, p, api.MaxTime+1, 0)
	done(t, p, 0, 0) // 1
	done(t, p, 0, api.MaxTime)
	wantNext(t, p, math.MaxInt, 0)
	done(t, p, 2, api.MaxTime-1) // MaxTime + 1 as well
	wantNext(t, p, api.MaxTime+1, 0)
	done(t, p, 2, api.MaxTime-2)
	wantNext(t, p, api.MaxTime, 2)
	wantNone(t, p, api.MaxTime-1)
	wantState(t, "at the end", p, &model{[]int{1, 10000, 2}, []int{api.MaxTime + 1, api.MaxTime + 10000, api.MaxTime}})
}

func TestNextChangesNothing(t *testing.T) { // P9.1
	p, m := spread(t)
	for _, now := range []int{37, 37, 10000, 0, 15, 15, -1, math.MaxInt, math.MinInt} {
		p.Next(now)
		wantState(t, "asked again", p, m)
	}
}

func TestDoneAtTheEdges(t *testing.T) { // P9.1
	for _, interval := range []int{1, 2, 3, 9999, 10000} {
		for _, now := range []int{0, 1, 2, 9999, 10000, 1<<31 - 1, 1 << 31, 1<<32 - 1, 1 << 32, api.MaxTime - 10000, api.MaxTime - 1, api.MaxTime} {
			for i := range api.MaxPolls {
				p, m := planned(t, same(api.MaxPolls, interval)...), modelOf(same(api.MaxPolls, interval))
				done(t, p, i, now)
				m.done(i, now)
				wantState(t, "done", p, m)
			}
		}
	}
}

func TestDoneEarlyInTimeAndLate(t *testing.T) { // P9.1
	// The poll is due at 30; its interval counts from when it was done.
	for _, c := range []struct{ now, due int }{
		{30, 40},                     // in time
		{29, 39}, {20, 30}, {19, 29}, // early
		{0, 10}, {1, 11}, // earlier than it was done before
		{31, 41}, {39, 49}, {40, 50}, {41, 51}, {999, 1009}, {api.MaxTime, api.MaxTime + 10}, // late
	} {
		p := planned(t, 4, 10, 6)
		done(t, p, 0, 1000)
		done(t, p, 1, 20)
		done(t, p, 1, c.now)
		wantState(t, "done", p, &model{[]int{4, 10, 6}, []int{1004, c.due, 0}})
	}
	p := planned(t, 10)
	for _, step := range []struct{ now, due int }{{0, 10}, {10, 20}, {15, 25}, {15, 25}, {40, 50}, {45, 55}, {3, 13}, {api.MaxTime, api.MaxTime + 10}, {0, 10}} {
		done(t, p, 0, step.now)
		wantState(t, "done in a row", p, &model{[]int{10}, []int{step.due}})
	}
}

func TestDoneOfNoPoll(t *testing.T) { // P9.1
	for n := range api.MaxPolls + 1 {
		p := planned(t, same(n, 6)...)
		for _, i := range append([]int{n, n + 1}, farIndexes...) {
			for _, now := range []int{0, 1, 77, api.MaxTime} {
				wantFault(t, "Done of no poll", p.Done(i, now), i, api.ErrNone)
			}
			// The index counts ahead of the time.
			for _, now := range wrongTimes {
				wantFault(t, "Done of no poll at a wrong time", p.Done(i, now), i, api.ErrNone)
			}
		}
		wantState(t, "after wrong calls", p, modelOf(same(n, 6)))
	}
}

func TestDoneAtAWrongTime(t *testing.T) { // P9.1
	for n := 1; n <= api.MaxPolls; n++ {
		p := planned(t, same(n, 6)...)
		for i := range n {
			for _, now := range wrongTimes {
				wantFault(t, "Done at a wrong time", p.Done(i, now), i, api.ErrRange)
			}
		}
		wantState(t, "after wrong calls", p, modelOf(same(n, 6)))
	}
}

func TestFailedDoneChangesNothing(t *testing.T) { // P9.1, P0.2
	p, m := spread(t)
	for _, i := range append([]int{4, 5, 15}, farIndexes...) {
		wantFault(t, "Done of no poll", p.Done(i, 5), i, api.ErrNone)
		wantState(t, "after Done of no poll", p, m)
	}
	for i := range 4 {
		for _, now := range wrongTimes {
			wantFault(t, "Done at a wrong time", p.Done(i, now), i, api.ErrRange)
			wantState(t, "after Done at a wrong time", p, m)
		}
	}
	for i := range 4 {
		done(t, p, i, 60)
		m.done(i, 60)
		wantState(t, "after Done that succeeds", p, m)
	}
}

func TestDue(t *testing.T) { // P9.1
	p, _ := spread(t)
	for i, want := range []int{37, 15, 21, 10000} {
		if at, ok := p.Due(i); at != want || !ok {
			t.Errorf("Due(%d) is %d, %t, not %d", i, at, ok, want)
		}
	}
	for _, i := range []int{-1, 4} {
		if at, ok := p.Due(i); at != 0 || ok {
			t.Errorf("Due(%d) is %d, %t, not 0, false", i, at, ok)
		}
	}
}

func TestLen(t *testing.T) { // P9.1
	for n := range api.MaxPolls + 1 {
		p := planned(t, same(n, 2)...)
		for i := range n {
			done(t, p, i, 5*i)
		}
		p.Done(n, 0)
		p.Next(3)
		if p.Len() != n || p.Copy().Len() != n {
			t.Errorf("Len of %d polls is %d, and of a copy %d", n, p.Len(), p.Copy().Len())
		}
	}
}

func TestCopyIsInTheSameState(t *testing.T) { // P9.1
	p, m := spread(t)
	own := p.Copy()
	wantState(t, "the copy", own, m)
	wantState(t, "the copy of the copy", own.Copy(), m)
	// The copy has the intervals as well.
	for i := range 4 {
		done(t, own, i, 500+i)
		m.done(i, 500+i)
	}
	wantState(t, "the copy goes on", own, m)
}

func TestCopiesGoTheirOwnWay(t *testing.T) { // P9.1
	for n := 1; n <= api.MaxPolls; n++ {
		for i := range n {
			every := same(n, 3)
			plans := []*Plan{planned(t, every...)}
			plans = append(plans, plans[0].Copy(), plans[0].Copy())
			plans = append(plans, plans[1].Copy())
			var models []*model
			for turn, p := range plans {
				done(t, p, i, 10*turn)
				models = append(models, modelOf(every))
				models[turn].done(i, 10*turn)
			}
			for turn, p := range plans {
				wantState(t, "one of four", p, models[turn])
			}
		}
	}
}

func TestACopyIsOfItsTime(t *testing.T) { // P9.1
	p, m := spread(t)
	before := m.copied()
	own := p.Copy()
	for i := range 4 {
		done(t, p, i, 7000)
		m.done(i, 7000)
	}
	wantState(t, "the copy", own, before)
	wantState(t, "what it was copied from", p, m)
	done(t, own, 2, 3)
	before.done(2, 3)
	wantState(t, "the copy goes on", own, before)
	wantState(t, "beside the copy", p, m)
}

func TestNewChangesAndKeepsNothing(t *testing.T) { // P9.2
	for n := range api.MaxPolls + 1 {
		whole := append(same(n, 12), 0, -3, 77, 10001)
		before := slices.Clone(whole)
		p := planned(t, whole[:n]...)
		for i := range n {
			done(t, p, i, i)
		}
		if !slices.Equal(whole, before) {
			t.Fatalf("P9.2: New of %d changed its argument: %v", n, whole)
		}
		m := modelOf(same(n, 12))
		for i := range whole {
			whole[i] = 4000 + i
		}
		for i := range n {
			m.done(i, i)
		}
		wantState(t, "P9.2: behind what is written", p, m)
		for i := range n {
			done(t, p, i, 100)
			m.done(i, 100)
		}
		wantState(t, "P9.2: done behind what is written", p, m)
		_ = append(whole[:0], 1, 2, 3, 4)
		wantState(t, "P9.2: behind what is appended", p, m)
	}
}

func TestTheSameArgumentTwice(t *testing.T) { // P9.2
	every := []int{5, 3, 8}
	first := planned(t, every...)
	every[1] = 30
	second := planned(t, every...)
	for _, p := range []*Plan{first, second} {
		for i := range 3 {
			done(t, p, i, 0)
		}
	}
	wantState(t, "P9.2: the first", first, &model{[]int{5, 3, 8}, []int{5, 3, 8}})
	wantState(t, "P9.2: the second", second, &model{[]int{5, 30, 8}, []int{5, 30, 8}})
}

func TestRefusedArgumentsStayAsTheyWere(t *testing.T) { // P9.2
	for _, n := range []int{1, 4, 16, 17, 40} {
		whole := append(same(n, 5), 1, 2, 3)
		whole[n-1] = 0
		before := slices.Clone(whole)
		New(whole[:n])
		if !slices.Equal(whole, before) {
			t.Errorf("P9.2: New of %d that fails changed its argument: %v", n, whole)
		}
	}
}

// someIntervals are intervals at random: mostly short, some of them the longest.
func someIntervals(random *rand.Rand) []int {
	every := make([]int, random.Intn(api.MaxPolls+1))
	for i := range every {
		every[i] = 1 + random.Intn(12)
		if random.Intn(6) == 0 {
			every[i] = 10000 - random.Intn(3)
		}
	}
	return every
}

func TestAllThatAreDueComeOnceEach(t *testing.T) { // P9.3
	random := rand.New(rand.NewSource(9))
	for range 3000 {
		every := someIntervals(random)
		p, latest := planned(t, every...), 0
		for i := range every {
			if random.Intn(3) > 0 {
				at := random.Intn(40)
				done(t, p, i, at)
				latest = max(latest, at+every[i])
			}
		}
		wantEachOnce(t, p, latest+random.Intn(3)*random.Intn(20000))
	}
	for n := range api.MaxPolls + 1 {
		for _, now := range []int{0, 1, api.MaxTime - 1, api.MaxTime} {
			wantEachOnce(t, planned(t, same(n, 1)...), now)
			wantEachOnce(t, planned(t, same(n, 10000)...), now)
		}
	}
}

// wantEachOnce takes all polls at the time now, at which they are due, and checks that each comes once and in the order of their times.
func wantEachOnce(t *testing.T, p *Plan, now int) {
	t.Helper()
	met, last := make([]int, p.Len()), math.MinInt
	for range p.Len() {
		i, ok := p.Next(now)
		at, has := p.Due(i)
		if !ok || !has || at < last {
			t.Fatalf("P9.3: Next(%d) is %d, %t, due at %d, behind one of %d", now, i, ok, at, last)
		}
		met[i]++
		last = at
		done(t, p, i, now)
	}
	if !slices.Equal(met, same(p.Len(), 1)) {
		t.Fatalf("P9.3: at %d the polls came so often: %v", now, met)
	}
	wantNone(t, p, now)
}

func TestPollsDoneAtOnceComeByTheirIntervals(t *testing.T) { // P9.3
	for _, every := range [][]int{{5, 3}, {4, 9, 2, 7}, {1}, {1, 1, 1}, {10000, 1, 3}, {6, 4, 6, 4, 12}, same(api.MaxPolls, 2), {16, 15, 14, 13, 12, 11, 10, 9, 8, 7, 6, 5, 4, 3, 2, 1}} {
		p := planned(t, every...)
		for now := range 10100 {
			var want []int
			for i, interval := range every {
				if now%interval == 0 {
					want = append(want, i)
				}
			}
			if got := takeAll(t, p, now); !slices.Equal(got, want) {
				t.Fatalf("P9.3: %v at %d: %v, not %v", every, now, got, want)
			}
		}
	}
}

// takeAll does polls as soon as Next returns them until none is due.
func takeAll(t *testing.T, p *Plan, now int) []int {
	t.Helper()
	var taken []int
	for i, ok := p.Next(now); ok; i, ok = p.Next(now) {
		taken = append(taken, i)
		done(t, p, i, now)
		if len(taken) > p.Len() {
			t.Fatalf("P9.3: at %d some poll comes twice: %v", now, taken)
		}
	}
	return taken
}

func TestOnePollAtATimeLeavesNoneBehind(t *testing.T) { // P9.1, P9.3
	for n := 1; n <= api.MaxPolls; n++ {
		p, last := planned(t, same(n, 1)...), -1
		for now := range 10 * n {
			i, ok := p.Next(now)
			if !ok || i != (last+1)%n {
				t.Fatalf("%d polls: Next(%d) is %d, %t, behind %d", n, now, i, ok, last)
			}
			done(t, p, i, now)
			last = i
		}
	}
}

// someTime is a time at random about the times that polls are due at, or far from them.
func someTime(random *rand.Rand, now int) int {
	switch random.Intn(20) {
	case 0:
		return random.Intn(api.MaxTime + 1)
	case 1:
		return api.MaxTime - random.Intn(3)
	case 2, 3, 4:
		return random.Intn(20)
	}
	return min(now+random.Intn(20), api.MaxTime)
}

func TestCallsAtRandom(t *testing.T) { // P9.1
	for seed := range int64(150) {
		random := rand.New(rand.NewSource(seed))
		every := someIntervals(random)
		p, m, now := planned(t, every...), modelOf(every), 0
		for range 100 {
			i := random.Intn(len(every)+2) - 1
			switch random.Intn(8) {
			case 0:
				left := p
				p, m = p.Copy(), m.copied()
				left.Done(i, random.Intn(100))
			case 1:
				wrong := wrongTimes[random.Intn(len(wrongTimes))]
				if p.Done(i, wrong) == nil {
					t.Fatalf("seed %d: Done(%d, %d) succeeds", seed, i, wrong)
				}
			default:
				now = someTime(random, now)
				if next, ok := p.Next(now); ok && random.Intn(2) == 0 {
					i = next
				}
				if i >= 0 && i < len(every) {
					done(t, p, i, now)
					m.done(i, now)
				}
			}
			wantState(t, "at random", p, m)
		}
	}
}
