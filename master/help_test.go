package master

import (
	"bytes"
	"encoding/hex"
	"errors"
	"math"
	"slices"
	"strings"
	"testing"

	"switchyard/api"
	"switchyard/fail"
	"switchyard/pdu"
	"switchyard/rtu"
)

// farNumbers are indexes of no slave, numbers of no function and registers that are none; some of them are one in their lowest bytes.
var farNumbers = []int{-1, -2, -8, -65535, -65536, 65536, 65537, 1 << 31, 1 << 32, 1<<32 + 1, 1<<32 + 5, 1<<32 + 6, -1<<32 + 5, math.MinInt, math.MinInt + 1, math.MaxInt - 1, math.MaxInt}

// conf is a configuration of the slaves 17 and 3, with Reply 5, Silence 2, Retries 1 and Offline 2.
func conf(polls ...api.Poll) api.Config {
	return api.Config{
		Own: 1, Master: 2, Reply: 5, Silence: 2, Retries: 1, Offline: 2, Select: 9, Confirm: 9, Frag: 300,
		Room: [3]int{4, 4, 4}, Slaves: []int{17, 3}, Polls: polls,
	}
}

// register is a poll of one register of the slave.
func register(slave, start, every int) api.Poll {
	return api.Poll{Slave: slave, Func: 3, Start: start, Count: 1, Every: every}
}

// made is a master that New has to make.
func made(t *testing.T, c api.Config) *Master {
	t.Helper()
	m, err := New(c)
	if err != nil || m == nil {
		t.Fatalf("New(%+v): %v", c, err)
	}
	return m
}

func fromHex(t *testing.T, text string) []byte {
	t.Helper()
	b, err := hex.DecodeString(strings.ReplaceAll(text, " ", ""))
	if err != nil {
		t.Fatal(err)
	}
	return b
}

// framed is the frame of the data.
func framed(t *testing.T, address int, data ...byte) []byte {
	t.Helper()
	b, err := rtu.Frame(address, data)
	if err != nil {
		t.Fatal(err)
	}
	return b
}

// asking is the frame of a request.
func asking(t *testing.T, address int, r pdu.Request) []byte {
	t.Helper()
	data, err := pdu.Encode(r)
	if err != nil {
		t.Fatal(err)
	}
	return framed(t, address, data...)
}

// answering is the frame of a reply to a request.
func answering(t *testing.T, address int, r pdu.Request, p pdu.Reply) []byte {
	t.Helper()
	data, err := pdu.Answer(r, p)
	if err != nil {
		t.Fatal(err)
	}
	return framed(t, address, data...)
}

// readOf is the request of a poll.
func readOf(p api.Poll) pdu.Request {
	return pdu.Request{Func: p.Func, Start: p.Start, Count: p.Count}
}

// writeOf is the request of a write.
func writeOf(fn, reg, value int) pdu.Request {
	return pdu.Request{Func: fn, Start: reg, Count: 1, Values: []int{value}}
}

// hear hands over what comes on the line.
func hear(m *Master, list ...byte) {
	for _, b := range list {
		m.Byte(b)
	}
}

// queue is Write, which has to succeed with the number.
func queue(t *testing.T, m *Master, slave, fn, reg, value, number int) {
	t.Helper()
	before := m.Queue()
	if n, err := m.Write(slave, fn, reg, value); n != number || err != nil {
		t.Fatalf("Write(%d, %d, %d, %d) is %d, %v, not %d", slave, fn, reg, value, n, err, number)
	}
	if m.Queue() != before+1 {
		t.Fatalf("Write(%d, %d, %d, %d) makes the Queue of %d one of %d", slave, fn, reg, value, before, m.Queue())
	}
}

// wantFault checks that err is the code wrapped once, by master and the slave.
func wantFault(t *testing.T, what string, err error, slave int, code api.Code) {
	t.Helper()
	var f *fail.Fail
	if !errors.As(err, &f) || error(f) != err || *f != (fail.Fail{Where: "master", Place: slave, Err: code}) {
		t.Errorf("%s: %v, not master %d: %v", what, err, slave, code)
	}
}

// wantRefused checks that Write fails so, and that Queue tells nothing of it.
func wantRefused(t *testing.T, m *Master, slave, fn, reg, value int, code api.Code) {
	t.Helper()
	before := m.Queue()
	n, err := m.Write(slave, fn, reg, value)
	wantFault(t, "Write", err, slave, code)
	if n != 0 || m.Queue() != before {
		t.Errorf("Write(%d, %d, %d, %d) that fails is %d, with a Queue of %d behind one of %d", slave, fn, reg, value, n, m.Queue(), before)
	}
}

func sameResult(a, b Result) bool {
	return a.Poll == b.Poll && a.Write == b.Write && a.Slave == b.Slave && a.OK == b.OK &&
		a.Offline == b.Offline && a.Code == b.Code && slices.Equal(a.Values, b.Values)
}

// wantTick ticks once, and checks all that is told of it.
func wantTick(t *testing.T, what string, m *Master, frame []byte, result Result, told bool) {
	t.Helper()
	now := m.Now()
	b, r, ok := m.Tick()
	if !bytes.Equal(b, frame) || !sameResult(r, result) || ok != told {
		t.Fatalf("%s: the tick %d: % x, %+v, %t, not % x, %+v, %t", what, now+1, b, r, ok, frame, result, told)
	}
	if m.Now() != now+1 && now != api.MaxTime {
		t.Fatalf("%s: Now is %d behind %d", what, m.Now(), now)
	}
}

// wantQuiet ticks n times, in which nothing comes to be told.
func wantQuiet(t *testing.T, what string, m *Master, n int) {
	t.Helper()
	busy := m.Busy()
	for range n {
		wantTick(t, what, m, nil, Result{}, false)
		if m.Busy() != busy {
			t.Fatalf("%s: Busy is %t at %d", what, !busy, m.Now())
		}
	}
}

// wantSent ticks once, in which the frame is sent.
func wantSent(t *testing.T, what string, m *Master, frame []byte) {
	t.Helper()
	wantTick(t, what, m, frame, Result{}, false)
	if !m.Busy() {
		t.Fatalf("%s: not Busy behind a frame that is sent", what)
	}
}

// wantEnd ticks once, in which the request is finished.
func wantEnd(t *testing.T, what string, m *Master, r Result) {
	t.Helper()
	if !m.Busy() {
		t.Fatalf("%s: not Busy ahead of the end of a request", what)
	}
	wantTick(t, what, m, nil, r, true)
	if m.Busy() {
		t.Fatalf("%s: Busy behind the end of a request", what)
	}
}

// wantOffline checks what is told of each slave, and of those that there are not.
func wantOffline(t *testing.T, what string, m *Master, want ...bool) {
	t.Helper()
	for slave, offline := range want {
		if m.Offline(slave) != offline {
			t.Errorf("%s: Offline(%d) is %t at %d", what, slave, !offline, m.Now())
		}
	}
	for _, slave := range append([]int{len(want), len(want) + 1}, farNumbers...) {
		if m.Offline(slave) {
			t.Errorf("%s: Offline(%d) is true", what, slave)
		}
	}
}

// isOver lets the outstanding read go without a reply until it is given up, and checks each tick.
func isOver(t *testing.T, what string, m *Master, c api.Config, frame []byte, r Result) {
	t.Helper()
	sent := 1
	if !m.Offline(r.Slave) {
		sent += c.Retries
	}
	for range sent - 1 {
		wantQuiet(t, what, m, c.Reply-1)
		wantSent(t, what, m, frame)
	}
	wantQuiet(t, what, m, c.Reply-1)
	wantEnd(t, what, m, r)
}
