package config

import (
	"math"
	"math/rand"
	"slices"
	"testing"

	"switchyard/api"
)

// least is the smallest configuration of the chapter's examples.
func least() api.Config {
	return api.Config{
		Own: 1, Master: 2, Reply: 1, Silence: 1, Retries: 0, Offline: 1, Select: 1, Confirm: 1,
		Frag: 249, Room: [3]int{1, 1, 1}, Slaves: []int{1},
	}
}

// usual has two or more elements of everything, and no field at a bound.
func usual() api.Config {
	return api.Config{
		Own: 1024, Master: 513, Unsol: true, Reply: 700, Silence: 20, Retries: 3, Offline: 4, Select: 2000, Confirm: 3000,
		Frag: 1000, Room: [3]int{10, 20, 30},
		Slaves: []int{17, 5, 200},
		Polls: []api.Poll{
			{Slave: 1, Func: 1, Start: 300, Count: 20, Every: 500},
			{Slave: 2, Func: 2, Start: 40000, Count: 8, Every: 7},
			{Slave: 0, Func: 3, Start: 1, Count: 50, Every: 9999},
			{Slave: 1, Func: 4, Start: 258, Count: 6, Every: 258},
		},
		Points: []api.Point{
			{Kind: api.Analog, Poll: 2, Place: 4, Class: 2, Dead: 70000, Num: -300, Den: 515, Off: -70000},
			{Kind: api.Binary, Poll: 0, Place: 3, Class: 1, Num: 1, Den: 1},
			{Kind: api.Counter, Poll: 3, Place: 5, Class: 3, Num: 1, Den: 1},
			{Kind: api.Binary, Poll: 1, Place: 7, Class: 0, Num: 1, Den: 1},
			{Kind: api.Double, Poll: 1, Place: 2, Class: 2, Num: 1, Den: 1},
			{Kind: api.Analog, Poll: 3, Place: 1, Class: 1, Dead: 1, Num: 999, Den: 2, Off: 999999},
			{Kind: api.Binary, Poll: 0, Place: 11, Class: 3, Num: 1, Den: 1},
			{Kind: api.Counter, Poll: 2, Place: 49, Class: 1, Num: 1, Den: 1},
			{Kind: api.Double, Poll: 0, Place: 18, Class: 1, Num: 1, Den: 1},
		},
		Controls: []api.Control{
			{Kind: api.AnaOut, Slave: 2, Reg: 40000},
			{Kind: api.BinOut, Slave: 0, Reg: 258},
			{Kind: api.BinOut, Slave: 1, Reg: 3},
			{Kind: api.AnaOut, Slave: 1, Reg: 1},
			{Kind: api.BinOut, Slave: 1, Reg: 3},
		},
	}
}

// fullest has as many elements as each list may have, and its fields at their upper bounds.
func fullest() api.Config {
	c := api.Config{
		Own: 65518, Master: 65519, Unsol: true, Reply: 10000, Silence: 100, Retries: 5, Offline: 10, Select: 10000, Confirm: 10000,
		Frag: 2048, Room: [3]int{60, 60, 60},
	}
	for i := range 8 {
		c.Slaves = append(c.Slaves, 247-i)
	}
	for i := range 16 {
		c.Polls = append(c.Polls, api.Poll{Slave: i % 8, Func: 1 + i%4, Start: 65436, Count: 100, Every: 10000})
	}
	for i := range 64 {
		c.Points = append(c.Points, lastPoint(i))
	}
	for i := range 32 {
		c.Controls = append(c.Controls, api.Control{Kind: api.BinOut + i%2, Slave: i % 8, Reg: 65535})
	}
	return c
}

// lastPoint stands at the last place of a poll of fullest that its kind may have.
func lastPoint(i int) api.Point {
	p := api.Point{Kind: api.Binary + i%4, Poll: i % 16, Place: 99, Class: 3, Num: 1, Den: 1}
	switch p.Kind {
	case api.Double:
		p.Place = 98
	case api.Analog:
		p.Dead, p.Num, p.Den, p.Off = 1000000, 1000, 1000, 1000000
	}
	return p
}

// valid are configurations that Check must let pass.
func valid() []api.Config { return []api.Config{least(), usual(), fullest()} }

// anyValid is a random configuration that is valid.
func anyValid(r *rand.Rand) api.Config {
	c := api.Config{
		Own: r.Intn(65520), Master: r.Intn(65520), Unsol: r.Intn(2) == 1, Reply: 1 + r.Intn(10000), Retries: r.Intn(6),
		Offline: 1 + r.Intn(10), Select: 1 + r.Intn(10000), Confirm: 1 + r.Intn(10000), Frag: 249 + r.Intn(1800),
		Room: [3]int{1 + r.Intn(60), 1 + r.Intn(60), 1 + r.Intn(60)},
	}
	if c.Master == c.Own {
		c.Master = (c.Own + 1) % 65520
	}
	c.Silence = 1 + r.Intn(min(100, c.Reply))
	for _, n := range r.Perm(247)[:1+r.Intn(8)] {
		c.Slaves = append(c.Slaves, n+1)
	}
	for range r.Intn(17) {
		count := 1 + r.Intn(100)
		c.Polls = append(c.Polls, api.Poll{Slave: r.Intn(len(c.Slaves)), Func: 1 + r.Intn(4), Start: r.Intn(65537 - count), Count: count, Every: 1 + r.Intn(10000)})
	}
	for range r.Intn(65) {
		if len(c.Polls) > 0 {
			c.Points = append(c.Points, anyPoint(r, c.Polls))
		}
	}
	for range r.Intn(33) {
		c.Controls = append(c.Controls, api.Control{Kind: api.BinOut + r.Intn(2), Slave: r.Intn(len(c.Slaves)), Reg: r.Intn(65536)})
	}
	return c
}

func anyPoint(r *rand.Rand, polls []api.Poll) api.Point {
	n := r.Intn(len(polls))
	p := api.Point{Poll: n, Place: r.Intn(polls[n].Count), Class: r.Intn(4), Num: 1, Den: 1}
	switch {
	case polls[n].Func > 2 && r.Intn(2) == 0:
		p.Kind = api.Counter
	case polls[n].Func > 2:
		p.Kind = api.Analog
		p.Dead, p.Num, p.Den, p.Off = r.Intn(1000001), r.Intn(2001)-1000, 1+r.Intn(1000), r.Intn(2000001)-1000000
	case p.Place < polls[n].Count-1 && r.Intn(2) == 0:
		p.Kind = api.Double
	default:
		p.Kind = api.Binary
	}
	return p
}

// clone shares no memory with c.
func clone(c api.Config) api.Config {
	c.Slaves, c.Polls, c.Points, c.Controls = slices.Clone(c.Slaves), slices.Clone(c.Polls), slices.Clone(c.Points), slices.Clone(c.Controls)
	return c
}

// spoil writes into all memory that the lists of c have, their spare memory too.
func spoil(c api.Config) {
	for i := range c.Slaves[:cap(c.Slaves)] {
		c.Slaves[:cap(c.Slaves)][i] = -7
	}
	for i := range c.Polls[:cap(c.Polls)] {
		c.Polls[:cap(c.Polls)][i] = api.Poll{Slave: -7}
	}
	for i := range c.Points[:cap(c.Points)] {
		c.Points[:cap(c.Points)][i] = api.Point{Kind: -7}
	}
	for i := range c.Controls[:cap(c.Controls)] {
		c.Controls[:cap(c.Controls)][i] = api.Control{Kind: -7}
	}
}

// equal is a model of Same: it goes through all elements one by one.
func equal(a, b api.Config) bool {
	if a.Own != b.Own || a.Master != b.Master || a.Unsol != b.Unsol || a.Reply != b.Reply || a.Silence != b.Silence ||
		a.Retries != b.Retries || a.Offline != b.Offline || a.Select != b.Select || a.Confirm != b.Confirm || a.Frag != b.Frag ||
		a.Room != b.Room || len(a.Slaves) != len(b.Slaves) || len(a.Polls) != len(b.Polls) ||
		len(a.Points) != len(b.Points) || len(a.Controls) != len(b.Controls) {
		return false
	}
	for i := range a.Slaves {
		if a.Slaves[i] != b.Slaves[i] {
			return false
		}
	}
	for i := range a.Polls {
		if a.Polls[i] != b.Polls[i] {
			return false
		}
	}
	for i := range a.Points {
		if a.Points[i] != b.Points[i] {
			return false
		}
	}
	for i := range a.Controls {
		if a.Controls[i] != b.Controls[i] {
			return false
		}
	}
	return true
}

// wrongKinds are numbers that are no kind.
var wrongKinds = []int{math.MinInt, -5, -1, 0, 8, 9, 255, 256 + api.Binary, 1 << 32, math.MaxInt}

func wantCount(t *testing.T, c api.Config, kind, want int) {
	t.Helper()
	if got := Count(c, kind); got != want {
		t.Errorf("Count(c, %d) is %d, not %d", kind, got, want)
	}
}

func wantFind(t *testing.T, c api.Config, kind, index, want int, found bool) {
	t.Helper()
	if got, ok := Find(c, kind, index); got != want || ok != found {
		t.Errorf("Find(c, %d, %d) is %d, %t, not %d, %t", kind, index, got, ok, want, found)
	}
}

func wantIndex(t *testing.T, c api.Config, place, want int) {
	t.Helper()
	if got := Index(c, place); got != want {
		t.Errorf("Index(c, %d) is %d, not %d", place, got, want)
	}
}

// placesOfUsual are the places of each kind in usual, in the order of their indexes.
func placesOfUsual() map[int][]int {
	return map[int][]int{
		api.Binary: {1, 3, 6}, api.Double: {4, 8}, api.Analog: {0, 5}, api.Counter: {2, 7},
		api.Frozen: {2, 7}, api.BinOut: {1, 2, 4}, api.AnaOut: {0, 3},
	}
}

func TestCountOfEachKind(t *testing.T) { // P6.4
	for kind, places := range placesOfUsual() {
		wantCount(t, usual(), kind, len(places))
		wantCount(t, least(), kind, 0)
		wantCount(t, api.Config{}, kind, 0)
	}
	for _, kind := range wrongKinds {
		wantCount(t, usual(), kind, 0)
	}
	for kind := api.Binary; kind <= api.AnaOut; kind++ {
		wantCount(t, fullest(), kind, 16)
	}
}

func TestFindOfEachKind(t *testing.T) { // P6.4
	for kind, places := range placesOfUsual() {
		for index, place := range places {
			wantFind(t, usual(), kind, index, place, true)
		}
		for _, index := range []int{math.MinInt, -2, -1, len(places), len(places) + 1, 1 << 32, math.MaxInt} {
			wantFind(t, usual(), kind, index, 0, false)
		}
		for _, index := range []int{-1, 0, 1} {
			wantFind(t, least(), kind, index, 0, false)
		}
	}
	for _, kind := range wrongKinds {
		for _, index := range []int{math.MinInt, -1, 0, 1, math.MaxInt} {
			wantFind(t, usual(), kind, index, 0, false)
		}
	}
}

func TestIndexOfEachPlace(t *testing.T) { // P6.4
	for place, index := range []int{0, 0, 0, 1, 0, 1, 2, 1, 1} {
		wantIndex(t, usual(), place, index)
	}
	for _, place := range []int{math.MinInt, -2, -1, 9, 10, 1 << 32, math.MaxInt} {
		wantIndex(t, usual(), place, -1)
	}
	for _, place := range []int{-1, 0, 1} {
		wantIndex(t, least(), place, -1)
	}
	for place := range 64 {
		wantIndex(t, fullest(), place, place/4)
	}
}

func TestThePlaceBehindTheEndIsNotRead(t *testing.T) { // P6.4, P0.4
	c := usual()
	c.Points, c.Controls = c.Points[:3], c.Controls[:1]
	wantIndex(t, c, 3, -1)
	wantCount(t, c, api.Binary, 1)
	wantCount(t, c, api.BinOut, 0)
	wantFind(t, c, api.Binary, 1, 0, false)
	wantFind(t, c, api.AnaOut, 1, 0, false)
}

func TestKindsOfAConfigurationThatIsNotValid(t *testing.T) { // P6.4: points count as points, and controls as controls, whatever their kinds
	c := api.Config{
		Points:   []api.Point{{Kind: api.Frozen}, {Kind: api.BinOut}, {Kind: api.Counter}, {Kind: 9}, {Kind: api.Frozen}, {Kind: api.AnaOut}, {Kind: 9}},
		Controls: []api.Control{{Kind: api.Binary}, {Kind: api.Frozen}, {Kind: api.AnaOut}, {Kind: 9}, {Kind: api.Counter}},
	}
	for kind, places := range map[int][]int{
		api.Binary: nil, api.Double: nil, api.Analog: nil, api.Counter: {2}, api.Frozen: {2}, api.BinOut: nil, api.AnaOut: {2}, 9: nil,
	} {
		wantCount(t, c, kind, len(places))
		for index, place := range places {
			wantFind(t, c, kind, index, place, true)
		}
		wantFind(t, c, kind, len(places), 0, false)
	}
	for place, index := range []int{0, 0, 0, 0, 1, 0, 1} {
		wantIndex(t, c, place, index)
	}
}

func TestFindAndIndexThereAndBack(t *testing.T) { // P6.6
	random := rand.New(rand.NewSource(61))
	list := valid()
	for range 200 {
		list = append(list, anyValid(random))
	}
	for _, c := range list {
		for place, p := range c.Points {
			wantFind(t, c, p.Kind, Index(c, place), place, true)
		}
		points := 0
		for kind := api.Binary; kind <= api.Counter; kind++ {
			points += Count(c, kind)
			thereAndBack(t, c, kind)
		}
		if points != len(c.Points) || Count(c, api.BinOut)+Count(c, api.AnaOut) != len(c.Controls) {
			t.Errorf("P6.4: the kinds have %d points of %d, or not all controls", points, len(c.Points))
		}
		thereAndBack(t, c, api.Frozen)
	}
}

func thereAndBack(t *testing.T, c api.Config, kind int) {
	t.Helper()
	for index := range Count(c, kind) {
		place, ok := Find(c, kind, index)
		if !ok {
			t.Errorf("P6.4: Find(c, %d, %d) finds none of %d", kind, index, Count(c, kind))
		}
		wantIndex(t, c, place, index)
	}
	wantFind(t, c, kind, Count(c, kind), 0, false)
}

func TestControlsInTheirOrder(t *testing.T) { // P6.4
	c := fullest()
	for i := range 16 {
		wantFind(t, c, api.BinOut, i, 2*i, true)
		wantFind(t, c, api.AnaOut, i, 2*i+1, true)
	}
}

// oneChange are changes of one field, or of one element of usual, alone.
func oneChange() []func(c *api.Config) {
	changes := []func(c *api.Config){
		func(c *api.Config) { c.Own++ },
		func(c *api.Config) { c.Master++ },
		func(c *api.Config) { c.Unsol = !c.Unsol },
		func(c *api.Config) { c.Reply++ },
		func(c *api.Config) { c.Silence++ },
		func(c *api.Config) { c.Retries++ },
		func(c *api.Config) { c.Offline++ },
		func(c *api.Config) { c.Select++ },
		func(c *api.Config) { c.Confirm++ },
		func(c *api.Config) { c.Frag++ },
		func(c *api.Config) { c.Room[0]++ },
		func(c *api.Config) { c.Room[1]++ },
		func(c *api.Config) { c.Room[2]++ },
		func(c *api.Config) { c.Slaves = c.Slaves[:2] },
		func(c *api.Config) { c.Slaves = c.Slaves[1:] },
		func(c *api.Config) { c.Slaves = nil },
		func(c *api.Config) { c.Slaves = append(c.Slaves, 0) },
		func(c *api.Config) { c.Polls = c.Polls[:3] },
		func(c *api.Config) { c.Polls = c.Polls[1:] },
		func(c *api.Config) { c.Polls = nil },
		func(c *api.Config) { c.Polls = append(c.Polls, api.Poll{}) },
		func(c *api.Config) { c.Points = c.Points[:8] },
		func(c *api.Config) { c.Points = c.Points[1:] },
		func(c *api.Config) { c.Points = nil },
		func(c *api.Config) { c.Points = append(c.Points, api.Point{}) },
		func(c *api.Config) { c.Controls = c.Controls[:4] },
		func(c *api.Config) { c.Controls = c.Controls[1:] },
		func(c *api.Config) { c.Controls = nil },
		func(c *api.Config) { c.Controls = append(c.Controls, api.Control{}) },
		func(c *api.Config) { c.Slaves[0], c.Slaves[1] = c.Slaves[1], c.Slaves[0] },
		func(c *api.Config) { c.Polls[0], c.Polls[3] = c.Polls[3], c.Polls[0] },
		func(c *api.Config) { c.Points[0], c.Points[8] = c.Points[8], c.Points[0] },
		func(c *api.Config) { c.Controls[0], c.Controls[4] = c.Controls[4], c.Controls[0] },
	}
	for i := range usual().Slaves {
		changes = append(changes, func(c *api.Config) { c.Slaves[i]++ })
	}
	for i := range usual().Polls {
		changes = append(changes,
			func(c *api.Config) { c.Polls[i].Slave++ },
			func(c *api.Config) { c.Polls[i].Func++ },
			func(c *api.Config) { c.Polls[i].Start++ },
			func(c *api.Config) { c.Polls[i].Count++ },
			func(c *api.Config) { c.Polls[i].Every++ })
	}
	for i := range usual().Points {
		changes = append(changes,
			func(c *api.Config) { c.Points[i].Kind++ },
			func(c *api.Config) { c.Points[i].Poll++ },
			func(c *api.Config) { c.Points[i].Place++ },
			func(c *api.Config) { c.Points[i].Class++ },
			func(c *api.Config) { c.Points[i].Dead++ },
			func(c *api.Config) { c.Points[i].Num++ },
			func(c *api.Config) { c.Points[i].Den++ },
			func(c *api.Config) { c.Points[i].Off++ })
	}
	for i := range usual().Controls {
		changes = append(changes,
			func(c *api.Config) { c.Controls[i].Kind++ },
			func(c *api.Config) { c.Controls[i].Slave++ },
			func(c *api.Config) { c.Controls[i].Reg++ })
	}
	return changes
}

func TestSameOfConfigurationsThatDifferInOneThing(t *testing.T) { // P6.4
	for i, change := range oneChange() {
		a, b := usual(), usual()
		change(&b)
		if Same(a, b) || Same(b, a) {
			t.Errorf("P6.4: Same of change %d is true", i)
		}
		if !Same(b, clone(b)) {
			t.Errorf("P6.4: Same of change %d and its copy is false", i)
		}
	}
}

func TestSameOfEqualConfigurations(t *testing.T) { // P6.4, P0.4: nil and the empty slice are equivalent
	list := valid()
	for i, a := range list {
		for j, b := range list {
			if Same(a, clone(b)) != (i == j) {
				t.Errorf("P6.4: Same of %d and %d", i, j)
			}
		}
	}
	empty := least()
	empty.Polls, empty.Points, empty.Controls = []api.Poll{}, []api.Point{}, make([]api.Control, 0, 4)
	none := api.Config{Slaves: []int{}}
	if !Same(empty, least()) || !Same(least(), empty) || !Same(none, api.Config{}) || !Same(api.Config{}, none) {
		t.Error("P0.4: an empty list is not the same as none")
	}
}

func TestSameDoesNotReadSpareMemory(t *testing.T) { // P0.4
	a, b := usual(), usual()
	a.Slaves, a.Polls, a.Points, a.Controls = a.Slaves[:2], a.Polls[:2], a.Points[:2], a.Controls[:2]
	b.Slaves[2], b.Polls[2], b.Points[2], b.Controls[2] = 0, api.Poll{}, api.Point{}, api.Control{}
	b.Slaves, b.Polls, b.Points, b.Controls = b.Slaves[:2], b.Polls[:2], b.Points[:2], b.Controls[:2]
	if !Same(a, b) {
		t.Error("P0.4: Same reads beyond the lists' ends")
	}
}

func TestArgumentsStayAsTheyWere(t *testing.T) { // P6.5
	list := append(valid(), api.Config{}, api.Config{Slaves: []int{3, 3}, Points: []api.Point{{Kind: 9}}})
	for i, c := range list {
		before := clone(c)
		Check(c)
		image, _ := Print(c)
		kept := slices.Clone(image)
		Parse(image)
		for kind := -1; kind <= 9; kind++ {
			Count(c, kind)
			Find(c, kind, 0)
		}
		Index(c, len(c.Points)-1)
		Same(c, before)
		if !equal(c, before) || !slices.Equal(image, kept) {
			t.Errorf("P6.5: an argument of configuration %d changed", i)
		}
	}
}

func TestSpareMemoryOfArgumentsStaysAsItWas(t *testing.T) { // P0.4
	whole := usual()
	c := whole
	c.Slaves, c.Polls, c.Points, c.Controls = whole.Slaves[:1], whole.Polls[:1], whole.Points[:1], whole.Controls[:1]
	Check(c)
	Print(c)
	Count(c, api.Binary)
	Find(c, api.AnaOut, 0)
	Index(c, 0)
	Same(c, c)
	if !equal(whole, usual()) {
		t.Error("P0.4: the memory behind an argument changed")
	}
	image, _ := Print(usual())
	longer := append(slices.Clone(image), 1, 2, 3, 4)
	kept := slices.Clone(longer)
	if _, err := Parse(longer[:len(image)]); err != nil {
		t.Errorf("P0.4: Parse reads beyond the end: %v", err)
	}
	if !slices.Equal(longer, kept) {
		t.Error("P0.4: the memory behind an image changed")
	}
}
