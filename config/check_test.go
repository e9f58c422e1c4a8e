package config

import (
	"errors"
	"math"
	"slices"
	"testing"

	"switchyard/api"
	"switchyard/fail"
)

// wantError asks for a code and the whole path; without steps, for the code OK, it asks for no error.
func wantError(t *testing.T, what string, err error, code api.Code, path ...fail.Step) {
	t.Helper()
	if code == api.OK && err == nil && len(path) == 0 {
		return
	}
	if err == nil || fail.Of(err) != code || !errors.Is(err, code) || !slices.Equal(fail.Path(err), path) {
		t.Errorf("%s gives %v, not code %d through %v", what, err, code, path)
	}
}

func number(n int) fail.Step { return fail.Step{Where: "config", Place: n} }

func item(i int) fail.Step { return fail.Step{Where: "item", Place: i} }

// bounds are numbers within two bounds and beyond them: close to both, far away, and around 0.
func bounds(least, greatest int) (good, bad []int) {
	for _, v := range []int{
		math.MinInt, -1 << 32, least - 1, least, least + 1, (least + greatest) / 2, greatest - 1, greatest, greatest + 1,
		-1, 0, 1, least + 1<<8, least + 1<<16, 1 << 32, math.MaxInt,
	} {
		if v >= least && v <= greatest {
			good = append(good, v)
		} else {
			bad = append(bad, v)
		}
	}
	return good, bad
}

func TestValidConfigurations(t *testing.T) { // P6.1
	for i, c := range valid() {
		if err := Check(c); err != nil {
			t.Errorf("P6.1: Check of configuration %d gives %v", i, err)
		}
	}
}

func TestExamplesOfTheChapter(t *testing.T) { // P6.1
	c := least()
	c.Own = 65520
	wantError(t, "Own 65520", Check(c), api.ErrRange, number(1))
	if got := fail.Text(Check(c)); got != "config 1: code 1" {
		t.Errorf("P6.1: the text is %q", got)
	}
	c = least()
	c.Slaves = []int{1, 1}
	wantError(t, "two slaves with the same address", Check(c), api.ErrRange, number(11), item(1))
	c = usual()
	c.Points[8].Place = c.Polls[0].Count - 1
	wantError(t, "a Double at the last place", Check(c), api.ErrRange, number(13), item(8))
	if got := fail.Text(Check(c)); got != "config 13: item 8: code 1" {
		t.Errorf("P6.1: the text is %q", got)
	}
}

func TestTheTenFields(t *testing.T) { // P6.1
	for _, f := range []struct {
		name                    string
		number, least, greatest int
		set                     func(c *api.Config, v int)
	}{
		{"Own", 1, 0, 65519, func(c *api.Config, v int) { c.Own, c.Master = v, 77 }},
		{"Master", 2, 0, 65519, func(c *api.Config, v int) { c.Master, c.Own = v, 77 }},
		{"Reply", 3, 1, 10000, func(c *api.Config, v int) { c.Reply, c.Silence = v, 1 }},
		{"Silence", 4, 1, 100, func(c *api.Config, v int) { c.Silence, c.Reply = v, 10000 }},
		{"Retries", 5, 0, 5, func(c *api.Config, v int) { c.Retries = v }},
		{"Offline", 6, 1, 10, func(c *api.Config, v int) { c.Offline = v }},
		{"Select", 7, 1, 10000, func(c *api.Config, v int) { c.Select = v }},
		{"Confirm", 8, 1, 10000, func(c *api.Config, v int) { c.Confirm = v }},
		{"Frag", 9, 249, 2048, func(c *api.Config, v int) { c.Frag = v }},
		{"Room 1", 10, 1, 60, func(c *api.Config, v int) { c.Room[0] = v }},
		{"Room 2", 10, 1, 60, func(c *api.Config, v int) { c.Room[1] = v }},
		{"Room 3", 10, 1, 60, func(c *api.Config, v int) { c.Room[2] = v }},
	} {
		good, bad := bounds(f.least, f.greatest)
		for _, c := range valid() {
			for _, v := range good {
				f.set(&c, v)
				wantError(t, f.name, Check(c), api.OK)
			}
			for _, v := range bad {
				f.set(&c, v)
				wantError(t, f.name, Check(c), api.ErrRange, number(f.number))
			}
		}
	}
}

func TestMasterDiffersFromOwn(t *testing.T) { // P6.1
	for _, address := range []int{0, 1, 1024, 65518, 65519} {
		c := usual()
		c.Own, c.Master = address, address
		wantError(t, "Master equal to Own", Check(c), api.ErrRange, number(2))
	}
	for _, address := range []int{-1, 65520} {
		c := usual()
		c.Own, c.Master = address, address
		wantError(t, "both beyond their bounds", Check(c), api.ErrRange, number(1))
	}
}

func TestSilenceIsAtMostReply(t *testing.T) { // P6.1
	for reply := 1; reply <= 102; reply++ {
		c := usual()
		c.Reply = reply
		for silence := 1; silence <= 102; silence++ {
			c.Silence = silence
			if silence <= 100 && silence <= reply {
				wantError(t, "Silence", Check(c), api.OK)
			} else {
				wantError(t, "Silence", Check(c), api.ErrRange, number(4))
			}
		}
	}
}

func TestUnsolIsFree(t *testing.T) { // P6.1
	for _, c := range valid() {
		for _, c.Unsol = range []bool{false, true} {
			wantError(t, "Unsol", Check(c), api.OK)
		}
	}
}

func TestLengthsOfTheLists(t *testing.T) { // P6.1
	for _, l := range []struct {
		number, least, most int
		set                 func(c *api.Config, n int)
	}{
		{11, 1, 8, func(c *api.Config, n int) { c.Slaves, c.Polls, c.Points, c.Controls = upTo(n), nil, nil, nil }},
		{12, 0, 16, func(c *api.Config, n int) { c.Polls, c.Points = repeat(n, usual().Polls[2]), nil }},
		{13, 0, 64, func(c *api.Config, n int) { c.Points = repeat(n, usual().Points[0]) }},
		{14, 0, 32, func(c *api.Config, n int) { c.Controls = repeat(n, usual().Controls[0]) }},
	} {
		for n := l.least; n < 300; n++ {
			c := usual()
			l.set(&c, n)
			if n <= l.most {
				wantError(t, "a list", Check(c), api.OK)
			} else {
				wantError(t, "a list that is too long", Check(c), api.ErrLong, number(l.number))
			}
		}
	}
}

// upTo are n addresses of slaves, each of them once.
func upTo(n int) []int {
	list := make([]int, n)
	for i := range list {
		list[i] = i + 1
	}
	return list
}

func repeat[T any](n int, item T) []T { return slices.Repeat([]T{item}, n) }

func TestEmptyLists(t *testing.T) { // P6.1
	for _, c := range valid() {
		c.Slaves = nil
		wantError(t, "no Slaves", Check(c), api.ErrRange, number(11))
		c.Slaves = []int{}
		wantError(t, "no Slaves", Check(c), api.ErrRange, number(11))
	}
	c := usual()
	c.Controls = nil
	wantError(t, "no Controls", Check(c), api.OK)
	c.Points = []api.Point{}
	wantError(t, "no Points", Check(c), api.OK)
	c.Polls = nil
	wantError(t, "no Polls", Check(c), api.OK)
	c = usual()
	c.Polls = nil
	wantError(t, "Points without Polls", Check(c), api.ErrRange, number(13), item(0))
}

func TestATooLongListCountsAheadOfItsElements(t *testing.T) { // P6.1
	c := usual()
	c.Controls = make([]api.Control, 33)
	wantError(t, "Controls", Check(c), api.ErrLong, number(14))
	c.Points = make([]api.Point, 65)
	wantError(t, "Points", Check(c), api.ErrLong, number(13))
	c.Polls = make([]api.Poll, 17)
	wantError(t, "Polls", Check(c), api.ErrLong, number(12))
	c.Slaves = make([]int, 9)
	wantError(t, "Slaves", Check(c), api.ErrLong, number(11))
	c.Room[1] = 0
	wantError(t, "Room", Check(c), api.ErrRange, number(10))
}

func TestSlaves(t *testing.T) { // P6.1
	good, bad := bounds(1, 247)
	for i := range 8 {
		c := fullest()
		for j := range c.Slaves {
			c.Slaves[j] = 30 + j
		}
		for _, c.Slaves[i] = range good {
			wantError(t, "a slave", Check(c), api.OK)
		}
		for _, c.Slaves[i] = range bad {
			wantError(t, "a slave", Check(c), api.ErrRange, number(11), item(i))
		}
		for j := range i {
			c.Slaves[i] = c.Slaves[j]
			wantError(t, "a slave that stands twice", Check(c), api.ErrRange, number(11), item(i))
		}
	}
}

// element is a condition of an element of a list: the field of the element i is within its bounds.
type element struct {
	name            string
	least, greatest int
	set             func(c *api.Config, i, v int)
}

// wantElements tries each condition at each of the places of base.
func wantElements(t *testing.T, listNumber int, base func() api.Config, places []int, conditions []element) {
	t.Helper()
	for _, e := range conditions {
		good, bad := bounds(e.least, e.greatest)
		for _, i := range places {
			c := base()
			for _, v := range good {
				e.set(&c, i, v)
				wantError(t, e.name, Check(c), api.OK)
			}
			for _, v := range bad {
				e.set(&c, i, v)
				wantError(t, e.name, Check(c), api.ErrRange, number(listNumber), item(i))
			}
		}
	}
}

// pollsOnly has no points, which would hang on the polls.
func pollsOnly() api.Config {
	c := usual()
	c.Points = nil
	return c
}

func TestPolls(t *testing.T) { // P6.1
	wantElements(t, 12, pollsOnly, []int{0, 1, 3}, []element{
		{"Slave", 0, 2, func(c *api.Config, i, v int) { c.Polls[i].Slave = v }},
		{"Func", 1, 4, func(c *api.Config, i, v int) { c.Polls[i].Func = v }},
		{"Count", 1, 100, func(c *api.Config, i, v int) { c.Polls[i].Count = v }},
		{"Count at Start 0", 1, 100, func(c *api.Config, i, v int) { c.Polls[i].Count, c.Polls[i].Start = v, 0 }},
		{"Count at the end", 1, 36, func(c *api.Config, i, v int) { c.Polls[i].Count, c.Polls[i].Start = v, 65500 }},
		{"Start for Count 1", 0, 65535, func(c *api.Config, i, v int) { c.Polls[i].Start, c.Polls[i].Count = v, 1 }},
		{"Start for Count 37", 0, 65499, func(c *api.Config, i, v int) { c.Polls[i].Start, c.Polls[i].Count = v, 37 }},
		{"Start for Count 100", 0, 65436, func(c *api.Config, i, v int) { c.Polls[i].Start, c.Polls[i].Count = v, 100 }},
		{"Every", 1, 10000, func(c *api.Config, i, v int) { c.Polls[i].Every = v }},
	})
	one := func() api.Config {
		c := pollsOnly()
		c.Slaves, c.Controls = c.Slaves[:1], nil
		for i := range c.Polls {
			c.Polls[i].Slave = 0
		}
		return c
	}
	wantElements(t, 12, one, []int{0, 3}, []element{
		{"Slave of one", 0, 0, func(c *api.Config, i, v int) { c.Polls[i].Slave = v }},
	})
}

// pointsOf4 has a point of each kind, twice, on polls of bits (0, 1) and of registers (2, 3) that all have 50 elements.
func pointsOf4() api.Config {
	c := usual()
	for i := range c.Polls {
		c.Polls[i].Count = 50
	}
	c.Points = nil
	for i := range 8 {
		c.Points = append(c.Points, api.Point{Kind: api.Binary + i%4, Poll: i % 4, Place: 7, Num: 1, Den: 1})
	}
	return c
}

// Places of the kinds in pointsOf4, a first and a later one.
var (
	binaries = []int{0, 4}
	doubles  = []int{1, 5}
	analogs  = []int{2, 6}
	counters = []int{3, 7}
)

func TestPointsOfEveryKind(t *testing.T) { // P6.1
	wantElements(t, 13, pointsOf4, []int{0, 1, 2, 3, 4, 5, 6, 7}, []element{
		{"Class", 0, 3, func(c *api.Config, i, v int) { c.Points[i].Class = v }},
	})
	bits := []element{{"Poll of bits", 0, 1, func(c *api.Config, i, v int) { c.Points[i].Poll = v }}}
	wantElements(t, 13, pointsOf4, slices.Concat(binaries, doubles), bits)
	registers := []element{{"Poll of registers", 2, 3, func(c *api.Config, i, v int) { c.Points[i].Poll = v }}}
	wantElements(t, 13, pointsOf4, slices.Concat(analogs, counters), registers)
	single := []element{{"Place", 0, 49, func(c *api.Config, i, v int) { c.Points[i].Place = v }}}
	wantElements(t, 13, pointsOf4, slices.Concat(binaries, analogs, counters), single)
	wantElements(t, 13, pointsOf4, doubles, []element{{"Place of a Double", 0, 48, single[0].set}})
}

func TestScalesOfAnalogPoints(t *testing.T) { // P6.1
	wantElements(t, 13, pointsOf4, analogs, []element{
		{"Num", -1000, 1000, func(c *api.Config, i, v int) { c.Points[i].Num = v }},
		{"Den", 1, 1000, func(c *api.Config, i, v int) { c.Points[i].Den = v }},
		{"Off", -1000000, 1000000, func(c *api.Config, i, v int) { c.Points[i].Off = v }},
		{"Dead", 0, 1000000, func(c *api.Config, i, v int) { c.Points[i].Dead = v }},
	})
}

func TestOnlyAnalogPointsHaveAScale(t *testing.T) { // P6.1
	wantElements(t, 13, pointsOf4, slices.Concat(binaries, doubles, counters), []element{
		{"Num", 1, 1, func(c *api.Config, i, v int) { c.Points[i].Num = v }},
		{"Den", 1, 1, func(c *api.Config, i, v int) { c.Points[i].Den = v }},
		{"Off", 0, 0, func(c *api.Config, i, v int) { c.Points[i].Off = v }},
		{"Dead", 0, 0, func(c *api.Config, i, v int) { c.Points[i].Dead = v }},
	})
}

func TestPlacesHangOnTheirOwnPoll(t *testing.T) { // P6.1
	for _, k := range []struct{ kind, function, beyond int }{
		{api.Binary, 1, 0}, {api.Binary, 2, 0}, {api.Double, 1, 1}, {api.Double, 2, 1}, {api.Analog, 3, 0}, {api.Counter, 4, 0},
	} {
		for count := 1; count <= 100; count++ {
			c := usual()
			c.Polls[3].Func, c.Polls[3].Start, c.Polls[3].Count = k.function, 0, count
			c.Points = repeat(2, api.Point{Kind: k.kind, Poll: 3, Num: 1, Den: 1})
			for place := -1; place <= 101; place++ {
				c.Points[0].Place, c.Points[1].Place = place, place
				if place >= 0 && place < count-k.beyond {
					wantError(t, "Place", Check(c), api.OK)
				} else {
					wantError(t, "Place", Check(c), api.ErrRange, number(13), item(0))
				}
			}
		}
	}
}

func TestEachKindOnEachFunction(t *testing.T) { // P6.1
	kinds := append([]int{api.Binary, api.Double, api.Analog, api.Counter, api.Frozen, api.BinOut, api.AnaOut}, wrongKinds...)
	for _, kind := range kinds {
		for function := 1; function <= 4; function++ {
			for i := range 3 {
				c := usual()
				c.Polls = repeat(4, api.Poll{Slave: 1, Func: 5 - function, Count: 2, Every: 1})
				c.Polls[i].Func = function
				c.Points = repeat(3, pointFor(5-function, (i+1)%4))
				c.Points[i] = api.Point{Kind: kind, Poll: i, Num: 1, Den: 1}
				bits := kind == api.Binary || kind == api.Double
				registers := kind == api.Analog || kind == api.Counter
				if bits && function <= 2 || registers && function >= 3 {
					wantError(t, "a kind", Check(c), api.OK)
				} else {
					wantError(t, "a kind", Check(c), api.ErrRange, number(13), item(i))
				}
			}
		}
	}
}

// pointFor is a point that fits to a poll with this function.
func pointFor(function, poll int) api.Point {
	if function <= 2 {
		return api.Point{Kind: api.Binary, Poll: poll, Num: 1, Den: 1}
	}
	return api.Point{Kind: api.Analog, Poll: poll, Num: 1, Den: 1}
}

func TestControls(t *testing.T) { // P6.1
	wantElements(t, 14, usual, []int{0, 1, 4}, []element{
		{"Kind", api.BinOut, api.AnaOut, func(c *api.Config, i, v int) { c.Controls[i].Kind = v }},
		{"Slave", 0, 2, func(c *api.Config, i, v int) { c.Controls[i].Slave = v }},
		{"Reg", 0, 65535, func(c *api.Config, i, v int) { c.Controls[i].Reg = v }},
	})
	for kind := api.Binary; kind <= api.Frozen; kind++ {
		c := usual()
		c.Controls[2].Kind = kind
		wantError(t, "a control of a point's kind", Check(c), api.ErrRange, number(14), item(2))
	}
}

// breaks each break one condition more, from the last to the first in the order of P6.1.
func breaks() []struct {
	path []fail.Step
	do   func(c *api.Config)
} {
	return []struct {
		path []fail.Step
		do   func(c *api.Config)
	}{
		{[]fail.Step{number(14), item(4)}, func(c *api.Config) { c.Controls[4].Reg = -1 }},
		{[]fail.Step{number(14), item(0)}, func(c *api.Config) { c.Controls[0].Kind = 0 }},
		{[]fail.Step{number(13), item(8)}, func(c *api.Config) { c.Points[8].Class = 4 }},
		{[]fail.Step{number(13), item(1)}, func(c *api.Config) { c.Points[1].Dead = 1 }},
		{[]fail.Step{number(12), item(3)}, func(c *api.Config) { c.Polls[3].Count = 0 }},
		{[]fail.Step{number(12), item(0)}, func(c *api.Config) { c.Polls[0].Func = 5 }},
		{[]fail.Step{number(11), item(2)}, func(c *api.Config) { c.Slaves[2] = 17 }},
		{[]fail.Step{number(11), item(1)}, func(c *api.Config) { c.Slaves[1] = 0 }},
		{[]fail.Step{number(10)}, func(c *api.Config) { c.Room[0] = 0 }},
		{[]fail.Step{number(9)}, func(c *api.Config) { c.Frag = 0 }},
		{[]fail.Step{number(8)}, func(c *api.Config) { c.Confirm = 0 }},
		{[]fail.Step{number(7)}, func(c *api.Config) { c.Select = 0 }},
		{[]fail.Step{number(6)}, func(c *api.Config) { c.Offline = 0 }},
		{[]fail.Step{number(5)}, func(c *api.Config) { c.Retries = 6 }},
		{[]fail.Step{number(4)}, func(c *api.Config) { c.Silence = 0 }},
		{[]fail.Step{number(3)}, func(c *api.Config) { c.Reply = 0 }},
		{[]fail.Step{number(2)}, func(c *api.Config) { c.Master = -1 }},
		{[]fail.Step{number(1)}, func(c *api.Config) { c.Own = -1 }},
	}
}

func TestTheFirstConditionCounts(t *testing.T) { // P6.1, P0.2
	list := breaks()
	all := usual()
	for i, later := range list {
		later.do(&all)
		wantError(t, "all up to here", Check(all), api.ErrRange, later.path...)
		for _, first := range list[i+1:] {
			c := usual()
			later.do(&c)
			first.do(&c)
			wantError(t, "two conditions", Check(c), api.ErrRange, first.path...)
		}
	}
}

func TestTheZeroConfiguration(t *testing.T) { // P6.1
	wantError(t, "the zero value", Check(api.Config{}), api.ErrRange, number(2))
	wantError(t, "another Master", Check(api.Config{Master: 1}), api.ErrRange, number(3))
}
