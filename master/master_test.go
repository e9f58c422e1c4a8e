package master

import (
	"slices"
	"testing"

	"switchyard/api"
	"switchyard/config"
	"switchyard/fail"
	"switchyard/pdu"
)

func TestNewOfAWrongConfiguration(t *testing.T) { // P10.1
	for _, c := range []struct {
		spoil func(*api.Config)
		want  string
	}{
		{func(c *api.Config) { *c = api.Config{} }, "config 2: code 1"},
		{func(c *api.Config) { c.Own = 65520 }, "config 1: code 1"},
		{func(c *api.Config) { c.Master = c.Own }, "config 2: code 1"},
		{func(c *api.Config) { c.Reply, c.Silence = 0, 0 }, "config 3: code 1"},
		{func(c *api.Config) { c.Reply = 10001 }, "config 3: code 1"},
		{func(c *api.Config) { c.Silence = 0 }, "config 4: code 1"},
		{func(c *api.Config) { c.Silence = 6 }, "config 4: code 1"},
		{func(c *api.Config) { c.Reply, c.Silence = 200, 101 }, "config 4: code 1"},
		{func(c *api.Config) { c.Retries = -1 }, "config 5: code 1"},
		{func(c *api.Config) { c.Retries = 6 }, "config 5: code 1"},
		{func(c *api.Config) { c.Offline = 0 }, "config 6: code 1"},
		{func(c *api.Config) { c.Offline = 11 }, "config 6: code 1"},
		{func(c *api.Config) { c.Select = 0 }, "config 7: code 1"},
		{func(c *api.Config) { c.Confirm = 0 }, "config 8: code 1"},
		{func(c *api.Config) { c.Frag = 248 }, "config 9: code 1"},
		{func(c *api.Config) { c.Room[1] = 0 }, "config 10: code 1"},
		{func(c *api.Config) { c.Slaves = nil }, "config 11: code 1"},
		{func(c *api.Config) { c.Slaves = make([]int, 9) }, "config 11: code 3"},
		{func(c *api.Config) { c.Slaves[1] = 248 }, "config 11: item 1: code 1"},
		{func(c *api.Config) { c.Slaves[1] = c.Slaves[0] }, "config 11: item 1: code 1"},
		{func(c *api.Config) { c.Polls = make([]api.Poll, 17) }, "config 12: code 3"},
		{func(c *api.Config) { c.Polls[1].Slave = 2 }, "config 12: item 1: code 1"},
		{func(c *api.Config) { c.Polls[0].Func = 5 }, "config 12: item 0: code 1"},
		{func(c *api.Config) { c.Polls[0].Every = 10001 }, "config 12: item 0: code 1"},
		{func(c *api.Config) { c.Polls[0].Every = 0 }, "config 12: item 0: code 1"},
		{func(c *api.Config) { c.Points = make([]api.Point, 1) }, "config 13: item 0: code 1"},
		{func(c *api.Config) { c.Controls = []api.Control{{Kind: api.BinOut, Slave: 2}} }, "config 14: item 0: code 1"},
		{func(c *api.Config) { c.Own, c.Polls[0].Every = -1, 0 }, "config 1: code 1"},
	} {
		wrong := conf(register(0, 0, 9), register(1, 0, 9))
		c.spoil(&wrong)
		m, err := New(wrong)
		if m != nil || fail.Text(err) != c.want || fail.Text(config.Check(wrong)) != c.want {
			t.Errorf("New(%+v): %v, not %s", wrong, err, c.want)
		}
	}
}

// countOf is n polls of one register each, in turn of the slaves, all of them due again after every ticks.
func countOf(n, slaves, every int) []api.Poll {
	var polls []api.Poll
	for i := range n {
		polls = append(polls, register(i%slaves, 100*i, every))
	}
	return polls
}

func TestNewHasAskedNothing(t *testing.T) { // P10.1, P10.3
	for n := range api.MaxPolls + 1 {
		for slaves := 1; slaves <= api.MaxSlaves; slaves++ {
			c := conf(countOf(n, slaves, 10)...)
			c.Slaves = []int{247, 1, 2, 100, 50, 8, 9, 10}[:slaves]
			m := made(t, c)
			if m.Busy() || m.Queue() != 0 || m.Now() != 0 {
				t.Fatalf("new: Busy %t, Queue %d, Now %d", m.Busy(), m.Queue(), m.Now())
			}
			wantOffline(t, "new", m, make([]bool, slaves)...)
			queue(t, m, slaves-1, 6, 1, 2, 1)
		}
	}
}

func TestMastersAreOfTheirOwn(t *testing.T) { // P10.1
	c := conf(register(0, 7, 10))
	first, second := made(t, c), made(t, c)
	queue(t, first, 0, 5, 8, 1, 1)
	wantSent(t, "the first", first, asking(t, 17, writeOf(5, 8, 1)))
	wantQuiet(t, "the first", first, 4)
	wantEnd(t, "the first", first, Result{Poll: -1, Write: 1, Code: -1})
	if second.Busy() || second.Queue() != 0 || second.Now() != 0 {
		t.Error("what one master does shows in another one")
	}
	queue(t, second, 1, 6, 8, 9, 1)
	wantSent(t, "the second", second, asking(t, 3, writeOf(6, 8, 9)))
	wantSent(t, "the first", first, asking(t, 17, readOf(c.Polls[0])))
}

func TestWritesAreNumbered(t *testing.T) { // P10.1
	m := made(t, conf())
	number := 0
	for range 30 {
		for range 16 {
			number++
			queue(t, m, number%2, 5+number%2, number, number%2, number)
		}
		for m.Queue() > 0 || m.Busy() {
			m.Tick()
		}
	}
}

func TestWritesThatAreValid(t *testing.T) { // P10.1, P10.2
	c := conf()
	for last := range api.MaxSlaves {
		c.Slaves = []int{17, 3, 1, 247, 2, 4, 5, 6}[:last+1]
		for _, slave := range []int{0, last} {
			for _, reg := range []int{0, 1, 255, 256, 65534, 65535} {
				for _, w := range [][2]int{{5, 0}, {5, 1}, {6, 0}, {6, 1}, {6, 2}, {6, 255}, {6, 256}, {6, 65534}, {6, 65535}} {
					m := made(t, c)
					queue(t, m, slave, w[0], reg, w[1], 1)
					wantSent(t, "a write", m, asking(t, c.Slaves[slave], writeOf(w[0], reg, w[1])))
				}
			}
		}
	}
}

func TestWritesByTheirBytes(t *testing.T) { // P10.1, P10.2
	m := made(t, conf())
	for number, w := range []struct {
		slave, fn, reg, value int
		want                  string
	}{
		{0, 5, 0xAC, 1, "11 05 00 AC FF 00"},
		{0, 5, 0xAC, 0, "11 05 00 AC 00 00"},
		{1, 6, 1, 3, "03 06 00 01 00 03"},
		{1, 6, 65535, 65535, "03 06 FF FF FF FF"},
	} {
		queue(t, m, w.slave, w.fn, w.reg, w.value, number+1)
		body := fromHex(t, w.want)
		wantSent(t, w.want, m, framed(t, int(body[0]), body[1:]...))
		wantQuiet(t, w.want, m, 4)
		wantEnd(t, w.want, m, Result{Poll: -1, Write: number + 1, Slave: w.slave, Code: -1})
	}
}

func TestWritesOutOfBounds(t *testing.T) { // P10.1
	m := made(t, conf())
	for _, slave := range append([]int{2, 3, 8, 17}, farNumbers...) {
		wantRefused(t, m, slave, 5, 0, 0, api.ErrRange)
		wantRefused(t, m, slave, 6, 9, 9, api.ErrRange)
	}
	for slave := range 2 {
		for _, fn := range append([]int{0, 1, 2, 3, 4, 7, 8, 14, 15, 16, 17, 128, 133, 134, 255, 256, 261, 262}, farNumbers...) {
			for _, value := range []int{0, 1} {
				wantRefused(t, m, slave, fn, 0, value, api.ErrRange)
			}
		}
		for _, reg := range farNumbers {
			wantRefused(t, m, slave, 5, reg, 1, api.ErrRange)
			wantRefused(t, m, slave, 6, reg, 1, api.ErrRange)
		}
		for _, value := range append([]int{2, 3, 255, 256, 0xFF00, 65535}, farNumbers...) {
			wantRefused(t, m, slave, 5, 0, value, api.ErrRange)
		}
		for _, value := range farNumbers {
			wantRefused(t, m, slave, 6, 0, value, api.ErrRange)
		}
	}
	// None of them took a number, and none is sent.
	queue(t, m, 0, 6, 5, 4, 1)
	wantSent(t, "the first that is valid", m, asking(t, 17, writeOf(6, 5, 4)))
}

func TestWritesToTheLastSlaveAndBeyond(t *testing.T) { // P10.1
	c := conf()
	for n := 1; n <= api.MaxSlaves; n++ {
		c.Slaves = []int{17, 3, 1, 247, 2, 4, 5, 6}[:n]
		m := made(t, c)
		wantRefused(t, m, -1, 6, 0, 0, api.ErrRange)
		wantRefused(t, m, n, 6, 0, 0, api.ErrRange)
		queue(t, m, n-1, 6, 0, 0, 1)
	}
}

func TestAFullQueue(t *testing.T) { // P10.1
	m := made(t, conf())
	for i := range 16 {
		queue(t, m, i%2, 6, i, i, i+1)
	}
	for slave := range 2 {
		wantRefused(t, m, slave, 6, 0, 0, api.ErrFull)
		wantRefused(t, m, slave, 5, 0, 1, api.ErrFull)
	}
	// What is wrong with the write itself counts ahead of the queue.
	wantRefused(t, m, 2, 6, 0, 0, api.ErrRange)
	wantRefused(t, m, -1, 6, 0, 0, api.ErrRange)
	wantRefused(t, m, 1, 3, 0, 0, api.ErrRange)
	wantRefused(t, m, 1, 5, 65536, 0, api.ErrRange)
	wantRefused(t, m, 1, 5, 0, 2, api.ErrRange)
	wantRefused(t, m, 1, 6, 0, 65536, api.ErrRange)
	// The one that is outstanding is not queued any more.
	for i := range 5 {
		wantSent(t, "from a full queue", m, asking(t, []int{17, 3}[i%2], writeOf(6, i, i)))
		queue(t, m, 1, 5, 7, 1, 17+i)
		wantRefused(t, m, 1, 5, 7, 1, api.ErrFull)
		wantQuiet(t, "from a full queue", m, 4)
		wantEnd(t, "from a full queue", m, Result{Poll: -1, Write: i + 1, Slave: i % 2, Code: -1})
		wantRefused(t, m, 1, 5, 7, 1, api.ErrFull)
	}
}

func TestQueue(t *testing.T) { // P10.3
	m := made(t, conf(register(0, 0, 1)))
	for n := range 16 {
		if m.Queue() != n {
			t.Errorf("Queue is %d, not %d", m.Queue(), n)
		}
		queue(t, m, 0, 6, 0, 0, n+1)
	}
	for n := 15; n >= 0; n-- {
		m.Tick()
		for m.Busy() {
			if m.Queue() != n {
				t.Errorf("Queue is %d, not %d", m.Queue(), n)
			}
			m.Tick()
		}
	}
	for range 50 {
		if m.Tick(); m.Queue() != 0 {
			t.Errorf("Queue is %d behind reads", m.Queue())
		}
	}
}

func TestOfflineOfNoSlave(t *testing.T) { // P10.3
	// All slaves are offline, and only they.
	c := conf(register(0, 0, 1), register(1, 0, 1))
	c.Offline = 1
	m := made(t, c)
	for range 40 {
		m.Tick()
	}
	wantOffline(t, "both", m, true, true)
}

func TestNow(t *testing.T) { // P10.3
	m := made(t, conf(register(0, 0, 3)))
	for n := range 2000 {
		if m.Now() != n {
			t.Fatalf("Now is %d behind %d ticks", m.Now(), n)
		}
		m.Byte(byte(n))
		if n%7 == 0 {
			m.Write(0, 6, 0, 0)
		}
		m.Tick()
	}
}

// under is a master with something of everything: a read that waits for the rest of a reply, two writes that are queued,
// and a slave that is offline.
func under(t *testing.T) (*Master, api.Config, []byte) {
	t.Helper()
	c := conf(register(0, 7, 1), register(1, 8, 40))
	m := made(t, c)
	for !m.Offline(0) || m.Busy() {
		m.Tick()
	}
	// The read of the other slave came in between, and failed once.
	wantSent(t, "under way", m, asking(t, 17, readOf(c.Polls[0])))
	queue(t, m, 0, 5, 1, 1, 1)
	queue(t, m, 1, 6, 2, 50, 2)
	wantQuiet(t, "under way", m, 1)
	reply := answering(t, 17, readOf(c.Polls[0]), pdu.Reply{Values: []int{77}})
	hear(m, reply[:3]...)
	return m, c, reply[3:]
}

// goOnWell plays on what under begins, with all replies.
func goOnWell(t *testing.T, m *Master, c api.Config, rest []byte) {
	t.Helper()
	wantOffline(t, "well", m, true, false)
	hear(m, rest...)
	wantQuiet(t, "well", m, 1)
	wantEnd(t, "well", m, Result{OK: true, Values: []int{77}})
	wantOffline(t, "well", m, false, false)
	wantSent(t, "well", m, asking(t, 17, writeOf(5, 1, 1)))
	hear(m, asking(t, 17, writeOf(5, 1, 1))...)
	wantQuiet(t, "well", m, 1)
	wantEnd(t, "well", m, Result{Poll: -1, Write: 1, OK: true})
	wantSent(t, "well", m, asking(t, 3, writeOf(6, 2, 50)))
	queue(t, m, 0, 6, 0, 0, 3)
}

// goOnBadly plays on what under begins, without any reply.
func goOnBadly(t *testing.T, m *Master, c api.Config) {
	t.Helper()
	wantQuiet(t, "badly", m, 3)
	wantEnd(t, "badly", m, Result{Offline: true, Code: -1})
	wantSent(t, "badly", m, asking(t, 17, writeOf(5, 1, 1)))
	queue(t, m, 1, 5, 9, 0, 3)
	wantQuiet(t, "badly", m, 4)
	wantEnd(t, "badly", m, Result{Poll: -1, Write: 1, Offline: true, Code: -1})
	wantSent(t, "badly", m, asking(t, 3, writeOf(6, 2, 50)))
	wantQuiet(t, "badly", m, 4)
	wantEnd(t, "badly", m, Result{Poll: -1, Write: 2, Slave: 1, Code: -1})
	wantSent(t, "badly", m, asking(t, 3, writeOf(5, 9, 0)))
	wantQuiet(t, "badly", m, 4)
	wantEnd(t, "badly", m, Result{Poll: -1, Write: 3, Slave: 1, Code: -1})
	wantSent(t, "badly", m, asking(t, 17, readOf(c.Polls[0])))
	wantOffline(t, "badly", m, true, false)
}

func TestCopyIsInTheSameState(t *testing.T) { // P10.3
	m, c, rest := under(t)
	own := m.Copy()
	if own == m || own.Now() != m.Now() || own.Queue() != 2 || !own.Busy() {
		t.Errorf("the copy: Now %d, Queue %d, Busy %t", own.Now(), own.Queue(), own.Busy())
	}
	goOnWell(t, own.Copy(), c, rest)
	goOnBadly(t, own, c)
}

func TestCopiesGoTheirOwnWay(t *testing.T) { // P10.3
	for turn := range 2 {
		m, c, rest := under(t)
		both := []*Master{m, m.Copy()}
		now := m.Now()
		goOnWell(t, both[turn], c, rest)
		if o := both[1-turn]; o.Now() != now || o.Queue() != 2 || !o.Busy() {
			t.Errorf("beside a copy: Now %d, Queue %d, Busy %t", o.Now(), o.Queue(), o.Busy())
		}
		wantOffline(t, "beside a copy", both[1-turn], true, false)
		goOnBadly(t, both[1-turn], c)
		m, c, rest = under(t)
		both = []*Master{m, m.Copy()}
		goOnBadly(t, both[turn], c)
		goOnWell(t, both[1-turn], c, rest)
	}
}

func TestCopiesTakeTurns(t *testing.T) { // P10.3
	c := conf(register(0, 1, 5), register(1, 2, 5))
	list := []*Master{made(t, c)}
	list[0].Tick()
	for range 3 {
		list = append(list, list[len(list)-1].Copy())
	}
	for i, m := range list {
		queue(t, m, 0, 6, 10+i, i, 1)
	}
	for i, m := range list {
		hear(m, answering(t, 17, readOf(c.Polls[0]), pdu.Reply{Values: []int{i}})...)
	}
	for _, m := range list {
		wantQuiet(t, "in turn", m, 1)
	}
	for i, m := range list {
		wantEnd(t, "in turn", m, Result{OK: true, Values: []int{i}})
	}
	for i, m := range list {
		wantSent(t, "in turn", m, asking(t, 17, writeOf(6, 10+i, i)))
	}
	for i, m := range list {
		for range i {
			m.Tick()
		}
		if m.Now() != 4+i {
			t.Errorf("in turn: Now is %d, not %d", m.Now(), 4+i)
		}
	}
}

func TestCopiesHaveTheirOwnQueues(t *testing.T) { // P10.3
	for taken := range 4 {
		m := made(t, conf())
		for i := range 6 {
			queue(t, m, 0, 6, i, 0, i+1)
		}
		for m.Queue() > 6-taken || m.Busy() {
			m.Tick()
		}
		own := m.Copy()
		queue(t, m, 0, 6, 100, 1, 7)
		queue(t, own, 0, 6, 200, 2, 7)
		queue(t, m, 0, 6, 101, 1, 8)
		queue(t, own, 0, 6, 201, 2, 8)
		wantRegisters(t, m, taken, 100, 101)
		wantRegisters(t, own, taken, 200, 201)
	}
}

// wantRegisters ticks until nothing is queued: the writes are those of the registers from the first to 5, and then of two others.
func wantRegisters(t *testing.T, m *Master, first int, last ...int) {
	t.Helper()
	var want, got []int
	for reg := first; reg < 6; reg++ {
		want = append(want, reg)
	}
	for m.Queue() > 0 {
		if b, _, _ := m.Tick(); len(b) > 0 {
			got = append(got, int(b[2])<<8|int(b[3]))
		}
	}
	if want = append(want, last...); !slices.Equal(got, want) {
		t.Errorf("the registers %v are written, not %v", got, want)
	}
}

func TestNewChangesAndKeepsNothing(t *testing.T) { // P10.4
	slaves, polls := []int{17, 3, 99, 98}, []api.Poll{register(0, 1, 7), register(1, 2, 7), {Slave: 9}, {Slave: 8}}
	c := conf(polls[:2]...)
	c.Slaves = slaves[:2]
	c.Points = []api.Point{{Kind: api.Counter, Num: 1, Den: 1}}
	c.Controls = []api.Control{{Kind: api.BinOut}}
	m := made(t, c)
	if !slices.Equal(slaves, []int{17, 3, 99, 98}) || !slices.Equal(polls, []api.Poll{register(0, 1, 7), register(1, 2, 7), {Slave: 9}, {Slave: 8}}) ||
		c.Points[0] != (api.Point{Kind: api.Counter, Num: 1, Den: 1}) || c.Controls[0] != (api.Control{Kind: api.BinOut}) {
		t.Fatal("P10.4: New changed its argument")
	}
	for i := range slaves {
		slaves[i], polls[i] = 200+i, api.Poll{Slave: 1, Func: 1, Start: 900 + i, Count: 9, Every: 900}
	}
	want := [][]byte{asking(t, 17, readOf(register(0, 1, 7))), asking(t, 3, readOf(register(1, 2, 7)))}
	for range 3 {
		for slave, frame := range want {
			wantSent(t, "P10.4", m, frame)
			hear(m, answering(t, []int{17, 3}[slave], readOf(register(slave, slave+1, 7)), pdu.Reply{Values: []int{5}})...)
			wantQuiet(t, "P10.4", m, 1)
			wantEnd(t, "P10.4", m, Result{Poll: slave, Slave: slave, OK: true, Values: []int{5}})
		}
		// The first of them is due seven ticks behind its end.
		wantQuiet(t, "P10.4", m, 3)
	}
}

func TestFramesAreNewMemory(t *testing.T) { // P10.4
	c := conf(register(0, 1, 3))
	c.Retries, c.Offline = 3, 10
	m := made(t, c)
	for range 4 {
		o := m.Copy()
		b, _, _ := m.Tick()
		overwrite(b)
		if again, _, _ := o.Tick(); !slices.Equal(again, asking(t, 17, readOf(c.Polls[0]))) {
			t.Errorf("P10.4: a frame that is written into shows in a copy: % x", again)
		}
		wantQuiet(t, "P10.4", m, 4)
	}
	wantEnd(t, "P10.4", m, Result{Code: -1})
	wantQuiet(t, "P10.4", m, 2)
	wantSent(t, "P10.4", m, asking(t, 17, readOf(c.Polls[0])))
	queue(t, m, 0, 6, 4, 3, 1)
	queue(t, m, 0, 6, 4, 3, 2)
	for m.Queue() == 2 {
		m.Tick()
	}
	first := asking(t, 17, writeOf(6, 4, 3))
	hear(m, first...)
	wantQuiet(t, "P10.4", m, 1)
	wantEnd(t, "P10.4", m, Result{Poll: -1, Write: 1, OK: true})
	b, _, _ := m.Tick()
	overwrite(b)
	hear(m, first...)
	wantQuiet(t, "P10.4", m, 1)
	wantEnd(t, "P10.4", m, Result{Poll: -1, Write: 2, OK: true})
}

// overwrite writes into a slice and all memory behind it.
func overwrite[T byte | int](list []T) {
	list = list[:cap(list)]
	for i := range list {
		list[i] = 1 + T(i)
	}
}

func TestValuesAreNewMemory(t *testing.T) { // P10.4
	p := api.Poll{Slave: 1, Func: 4, Start: 9, Count: 5, Every: 1}
	m := made(t, conf(p))
	wantSent(t, "P10.4", m, asking(t, 3, readOf(p)))
	reply := answering(t, 3, readOf(p), pdu.Reply{Values: []int{10, 11, 12, 13, 14}})
	var before []int
	for range 5 {
		hear(m, reply...)
		wantQuiet(t, "P10.4", m, 1)
		o := m.Copy()
		_, first, _ := m.Tick()
		_, second, _ := o.Tick()
		overwrite(first.Values)
		overwrite(before)
		if !sameResult(second, Result{Slave: 1, OK: true, Values: []int{10, 11, 12, 13, 14}}) {
			t.Fatalf("P10.4: %+v, behind values that are written into", second)
		}
		before = second.Values
		wantSent(t, "P10.4", m, asking(t, 3, readOf(p)))
	}
}
