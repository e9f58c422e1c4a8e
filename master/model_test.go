package master

import (
	"bytes"
	"math/rand"
	"slices"
	"testing"

	"switchyard/api"
	"switchyard/pdu"
	"switchyard/rtu"
)

// task is a request of the model: a read of a poll, or a write if it has a number.
type task struct {
	poll, write, slave, sent, waited int
	request                          pdu.Request
}

// model follows the words of the chapter, and those of the chapters 8 and 9 on the framer and the schedule.
type model struct {
	c           api.Config
	now, writes int
	due, failed []int
	queue       []task
	out         *task
	line        []byte
	quiet       int
}

func modelOf(c api.Config) *model {
	return &model{c: c, due: make([]int, len(c.Polls)), failed: make([]int, len(c.Slaves))}
}

func (m *model) copied() *model {
	o := *m
	o.due, o.failed, o.queue, o.line = slices.Clone(m.due), slices.Clone(m.failed), slices.Clone(m.queue), slices.Clone(m.line)
	if m.out != nil {
		out := *m.out
		o.out = &out
	}
	return &o
}

func (m *model) offline(slave int) bool { return m.failed[slave] >= m.c.Offline }

func (m *model) write(slave, fn, reg, value int) (int, api.Code) {
	right := slave >= 0 && slave < len(m.c.Slaves) && reg >= 0 && reg <= 65535 && value >= 0
	switch {
	case !right || !(fn == 5 && value <= 1 || fn == 6 && value <= 65535):
		return 0, api.ErrRange
	case len(m.queue) == 16:
		return 0, api.ErrFull
	}
	m.writes++
	m.queue = append(m.queue, task{poll: -1, write: m.writes, slave: slave, request: writeOf(fn, reg, value)})
	return m.writes, api.OK
}

func (m *model) take(b byte) {
	if m.out != nil {
		m.line = append(m.line, b)
		m.line = m.line[:min(len(m.line), 257)]
		m.quiet = 0
	}
}

// step1 gives the reply, if this tick ends one.
func (m *model) step1() *pdu.Reply {
	m.now = min(m.now+1, api.MaxTime)
	if m.out == nil {
		return nil
	}
	m.out.waited++
	if len(m.line) == 0 {
		return nil
	}
	if m.quiet++; m.quiet < m.c.Silence {
		return nil
	}
	address, data, err := rtu.Open(m.line)
	m.line = nil
	if err != nil || address != m.c.Slaves[m.out.slave] {
		return nil
	}
	p, err := pdu.Read(m.out.request, data)
	if err != nil {
		return nil
	}
	return &p
}

func (m *model) tick() ([]byte, Result, bool) {
	before := m.out
	reply := m.step1()
	if reply != nil { // step 2
		return nil, m.finished(*reply), true
	}
	if m.out != nil && m.out.waited >= m.c.Reply { // step 3
		if m.out.write == 0 && m.out.sent < 1+m.c.Retries && !m.offline(m.out.slave) {
			return m.send(*m.out), Result{}, false
		}
		return nil, m.finished(pdu.Reply{Code: -1}), true
	}
	if before != nil {
		return nil, Result{}, false
	}
	if len(m.queue) > 0 { // step 4
		first := m.queue[0]
		m.queue = m.queue[1:]
		return m.send(first), Result{}, false
	}
	next := -1
	for i, at := range m.due {
		if at <= m.now && (next < 0 || at < m.due[next]) {
			next = i
		}
	}
	if next < 0 {
		return nil, Result{}, false
	}
	return m.send(task{poll: next, slave: m.c.Polls[next].Slave, request: readOf(m.c.Polls[next])}), Result{}, false
}

func (m *model) send(out task) []byte {
	out.sent++
	out.waited = 0
	m.out, m.line = &out, nil
	data, _ := pdu.Encode(out.request)
	frame, _ := rtu.Frame(m.c.Slaves[out.slave], data)
	return frame
}

func (m *model) finished(p pdu.Reply) Result {
	out := *m.out
	m.out = nil
	if out.write == 0 {
		m.due[out.poll] = m.now + m.c.Polls[out.poll].Every
		if p.Code == 0 {
			m.failed[out.slave] = 0
		} else {
			m.failed[out.slave]++
		}
	}
	r := Result{Poll: out.poll, Write: out.write, Slave: out.slave, OK: p.Code == 0, Offline: m.offline(out.slave), Code: p.Code}
	if out.write == 0 && r.OK {
		r.Values = p.Values
	}
	return r
}

// someConf is a valid configuration at random, with short times.
func someConf(random *rand.Rand) api.Config {
	c := conf()
	c.Reply = 1 + random.Intn(9)
	c.Silence = 1 + random.Intn(min(c.Reply, 4))
	c.Retries, c.Offline = random.Intn(6), 1+random.Intn(4)
	c.Slaves = random.Perm(247)[:1+random.Intn(api.MaxSlaves)]
	for i := range c.Slaves {
		c.Slaves[i]++
	}
	for range random.Intn(api.MaxPolls+1) >> random.Intn(4) {
		count := 1 + random.Intn(100)>>random.Intn(8)
		c.Polls = append(c.Polls, api.Poll{
			Slave: random.Intn(len(c.Slaves)), Func: 1 + random.Intn(4), Start: random.Intn(65537 - count), Count: count, Every: 1 + random.Intn(30),
		})
	}
	return c
}

// someReply is the frame of a right reply to a request: OK or an exception.
func someReply(random *rand.Rand, address int, r pdu.Request) []byte {
	p := pdu.Reply{}
	switch {
	case random.Intn(4) == 0:
		p.Code = 1 + random.Intn(255)
	case r.Func <= 4:
		for range r.Count {
			value := random.Intn(65536)
			if r.Func <= 2 {
				value %= 2
			}
			p.Values = append(p.Values, value)
		}
	}
	data, _ := pdu.Answer(r, p)
	frame, _ := rtu.Frame(address, data)
	return frame
}

// spoiled is a frame that something happened to.
func spoiled(random *rand.Rand, frame []byte) []byte {
	switch random.Intn(5) {
	case 0:
		frame[random.Intn(len(frame))] ^= 1 << random.Intn(8)
	case 1:
		frame = frame[:random.Intn(len(frame))]
	case 2:
		slices.Reverse(frame)
	case 3:
		frame = append(frame, frame...)
	case 4:
		frame = bytes.Repeat(frame, 60)
	}
	return frame
}

// someBytes is what comes on the line in an answer to what is outstanding in the model.
func someBytes(random *rand.Rand, m *model) []byte {
	slave, request := 0, pdu.Request{Func: 3, Count: 1}
	if m.out != nil {
		slave, request = m.out.slave, m.out.request
	}
	address := m.c.Slaves[slave]
	switch random.Intn(16) {
	case 0:
		return nil
	case 1:
		return spoiled(random, someReply(random, address, request))
	case 2:
		return someReply(random, 1+random.Intn(247), request)
	case 3:
		request.Count++
		return someReply(random, address, request)
	case 4:
		request.Func = 1 + random.Intn(4)
		request.Values = nil
		return someReply(random, address, request)
	}
	return someReply(random, address, request)
}

// play is a master beside its model, and what is still to come on the line.
type play struct {
	random *rand.Rand
	seed   int64
	m      *Master
	model  *model
	coming []byte
}

// same checks all that the master tells of itself.
func (p *play) same(t *testing.T) {
	t.Helper()
	if p.m.Busy() != (p.model.out != nil) || p.m.Queue() != len(p.model.queue) || p.m.Now() != p.model.now {
		t.Fatalf("seed %d: Busy %t, Queue %d, Now %d, not %t, %d, %d", p.seed, p.m.Busy(), p.m.Queue(), p.m.Now(), p.model.out != nil, len(p.model.queue), p.model.now)
	}
	for slave := range len(p.model.c.Slaves) {
		if p.m.Offline(slave) != p.model.offline(slave) {
			t.Fatalf("seed %d: Offline(%d) is %t at %d", p.seed, slave, p.m.Offline(slave), p.m.Now())
		}
	}
}

func (p *play) tick(t *testing.T) {
	t.Helper()
	b, r, ok := p.m.Tick()
	if frame, result, told := p.model.tick(); !bytes.Equal(b, frame) || !sameResult(r, result) || ok != told {
		t.Fatalf("seed %d: the tick %d: % x, %+v, %t, not % x, %+v, %t", p.seed, p.model.now, b, r, ok, frame, result, told)
	}
	if len(b) > 0 || p.random.Intn(6) == 0 {
		p.coming = someBytes(p.random, p.model)
	}
}

// hear lets some of what is to come arrive, mostly all of it at once.
func (p *play) hear() {
	n := len(p.coming)
	if p.random.Intn(3) == 0 {
		n = p.random.Intn(n + 1)
	}
	for _, b := range p.coming[:n] {
		p.m.Byte(b)
		p.model.take(b)
	}
	p.coming = p.coming[n:]
}

// oneOf is mostly a number from 0 to the greatest one, and else one beside them.
func oneOf(random *rand.Rand, greatest int) int {
	switch random.Intn(30) {
	case 0:
		return -1
	case 1:
		return greatest + 1
	case 2:
		return greatest
	}
	return random.Intn(greatest + 1)
}

func (p *play) write(t *testing.T) {
	t.Helper()
	slave, fn := oneOf(p.random, len(p.model.c.Slaves)-1), 5+oneOf(p.random, 1)
	reg, value := oneOf(p.random, 65535), oneOf(p.random, 1)
	if fn == 6 {
		value = oneOf(p.random, 65535)
	}
	n, err := p.m.Write(slave, fn, reg, value)
	number, code := p.model.write(slave, fn, reg, value)
	if n != number || (err == nil) != (code == api.OK) {
		t.Fatalf("seed %d: Write(%d, %d, %d, %d) is %d, %v, not %d, %v", p.seed, slave, fn, reg, value, n, err, number, code)
	}
	if err != nil {
		wantFault(t, "Write", err, slave, code)
	}
}

// goOn plays for some steps.
func (p *play) goOn(t *testing.T, steps int) {
	t.Helper()
	writes := 2 + p.random.Intn(40)
	for range steps {
		switch {
		case p.random.Intn(writes) == 0:
			p.write(t)
		case p.random.Intn(3) > 0:
			p.tick(t)
		default:
			p.hear()
		}
		p.same(t)
	}
}

func TestPlaysAtRandom(t *testing.T) { // P10.1, P10.2, P10.3
	for seed := range int64(1500) {
		random := rand.New(rand.NewSource(seed))
		c := someConf(random)
		p := &play{random: random, seed: seed, m: made(t, c), model: modelOf(c)}
		p.same(t)
		p.goOn(t, 300)
		// The copy and what it was copied from go their own ways.
		other := &play{random: random, seed: seed, m: p.m.Copy(), model: p.model.copied(), coming: p.coming}
		other.same(t)
		for range 6 {
			p.goOn(t, random.Intn(40))
			other.goOn(t, random.Intn(40))
		}
		if p.same(t); random.Intn(2) == 0 {
			p = other
		}
		p.goOn(t, 100)
	}
}

// watch is an eye on a line: what was sent and how it ended. Each write has its number as its register.
type watch struct {
	c           api.Config
	writes      int // how many were sent
	first, sent int // when the outstanding request was sent first, and how often
	frame       []byte
}

func (w *watch) isWrite() bool { return w.frame[1] > 4 }

// see takes what a tick told, and tells what is wrong with it.
func (w *watch) see(now int, b []byte, r Result, told bool) string {
	switch {
	case told && (len(b) > 0 || w.sent == 0):
		return "a Result without a request, or beside bytes"
	case told:
		if now-w.first > (1+w.c.Retries)*w.c.Reply {
			return "a request that is over too late"
		}
		if r.Write != 0 && r.Write != w.writes || (r.Write != 0) != w.isWrite() {
			return "a Result of another request"
		}
		w.sent = 0
	case len(b) == 0:
		if w.sent > 0 && now-w.first >= (1+w.c.Retries)*w.c.Reply {
			return "a request that is not over in time"
		}
	case w.sent > 0:
		if w.isWrite() || !bytes.Equal(b, w.frame) || w.sent > w.c.Retries {
			return "a request while another one is outstanding"
		}
		w.sent++
	default:
		w.frame, w.first, w.sent = b, now, 1
		if w.isWrite() {
			w.writes++
		}
		if w.isWrite() && int(b[2])<<8|int(b[3]) != w.writes {
			return "a write out of its order, or once more"
		}
	}
	return ""
}

func TestEveryWriteIsSentOnceAndEveryRequestIsOver(t *testing.T) { // P10.5
	for seed := range int64(600) {
		random := rand.New(rand.NewSource(seed))
		c := someConf(random)
		m, w, accepted := made(t, c), &watch{c: c}, 0
		often, replies := 1+random.Intn(40), random.Intn(5)
		for step := 0; step < 1200 || m.Queue() > 0 || w.sent > 0 && w.isWrite(); step++ {
			if step < 1200 && random.Intn(often) == 0 {
				if _, err := m.Write(random.Intn(len(c.Slaves)), 5+random.Intn(2), accepted+1, random.Intn(2)); err == nil {
					accepted++
				}
			}
			b, r, told := m.Tick()
			if wrong := w.see(m.Now(), b, r, told); wrong != "" {
				t.Fatalf("P10.5: seed %d: %s at %d: % x, %+v", seed, wrong, m.Now(), b, r)
			}
			if m.Busy() && random.Intn(8) < replies {
				if asked, err := pdu.Decode(w.frame[1 : len(w.frame)-2]); err == nil {
					hear(m, someReply(random, int(w.frame[0]), asked)...)
				}
			}
			if step > 20000 {
				t.Fatalf("P10.5: seed %d: writes are left", seed)
			}
		}
		if w.writes != accepted {
			t.Fatalf("P10.5: seed %d: %d of %d writes were sent", seed, w.writes, accepted)
		}
	}
}

func TestTheLongestRequest(t *testing.T) { // P10.5
	for retries := range 6 {
		for _, reply := range []int{1, 2, 7, 10000} {
			c := conf(register(0, 0, 1))
			c.Reply, c.Silence, c.Retries = reply, 1, retries
			m := made(t, c)
			m.Tick()
			wait := 0
			for m.Busy() {
				m.Tick()
				wait++
				m.Byte(3) // Bytes that are no reply don't make it longer.
			}
			if wait != (1+retries)*reply {
				t.Errorf("P10.5: a read without a reply is over behind %d ticks, not %d times %d", wait, 1+retries, reply)
			}
			queue(t, m, 0, 6, 0, 0, 1)
			m.Tick()
			for wait = 0; m.Busy(); wait++ {
				m.Tick()
				m.Byte(3)
			}
			if wait != reply {
				t.Errorf("P10.5: a write without a reply is over behind %d ticks, not %d", wait, reply)
			}
		}
	}
}
