package master

import (
	"bytes"
	"slices"
	"testing"

	"switchyard/api"
	"switchyard/pdu"
)

func TestExampleOfTheChapter(t *testing.T) { // P10.2
	c := conf(register(0, 0, 10))
	c.Slaves = []int{1}
	m := made(t, c)
	frame := fromHex(t, "01 03 00 00 00 01 84 0A")
	wantSent(t, "the first tick", m, frame)
	wantQuiet(t, "between", m, 4)
	wantSent(t, "the sixth tick", m, frame)
	wantQuiet(t, "between", m, 4)
	wantEnd(t, "the eleventh tick", m, Result{Code: -1})
	if m.Now() != 11 {
		t.Errorf("Now is %d at the eleventh tick", m.Now())
	}
}

func TestWithoutPollsNothingIsSent(t *testing.T) { // P10.2
	m := made(t, conf())
	wantQuiet(t, "without polls", m, 1000)
	hear(m, 1, 2, 3)
	wantQuiet(t, "without polls", m, 100)
	queue(t, m, 1, 6, 0, 0, 1)
	wantSent(t, "without polls", m, asking(t, 3, writeOf(6, 0, 0)))
	wantQuiet(t, "without polls", m, 4)
	wantEnd(t, "without polls", m, Result{Poll: -1, Write: 1, Slave: 1, Code: -1})
	wantQuiet(t, "without polls", m, 100)
}

func TestReadsOfEveryFunction(t *testing.T) { // P10.2
	for fn := 1; fn <= 4; fn++ {
		for _, count := range []int{1, 2, 7, 8, 9, 16, 17, 99, 100} {
			for _, start := range []int{0, 1, 255, 256, 65536 - count} {
				p := api.Poll{Slave: 1, Func: fn, Start: start, Count: count, Every: 9}
				m := made(t, conf(p))
				wantSent(t, "a read", m, framed(t, 3, byte(fn), byte(start>>8), byte(start), 0, byte(count)))
				values := make([]int, count)
				for i := range values {
					values[i] = (i*i*257 + 3*i + 1) % 65536
					if fn < 3 {
						values[i] %= 2
					}
				}
				hear(m, answering(t, 3, readOf(p), pdu.Reply{Values: values})...)
				wantQuiet(t, "a read", m, 1)
				wantEnd(t, "a read", m, Result{Slave: 1, OK: true, Values: values})
			}
		}
	}
}

func TestRepliesByTheirBytes(t *testing.T) { // P10.2
	p := api.Poll{Func: 3, Start: 107, Count: 3, Every: 9}
	m := made(t, conf(p))
	wantSent(t, "the request", m, framed(t, 17, fromHex(t, "03 00 6B 00 03")...))
	hear(m, framed(t, 17, fromHex(t, "03 06 02 2B 00 00 FF FF")...)...)
	wantQuiet(t, "the reply", m, 1)
	wantEnd(t, "the reply", m, Result{OK: true, Values: []int{555, 0, 65535}})
	queue(t, m, 1, 5, 0xAC, 1, 1)
	wantSent(t, "the write", m, framed(t, 3, fromHex(t, "05 00 AC FF 00")...))
	hear(m, framed(t, 3, fromHex(t, "05 00 AC FF 00")...)...)
	wantQuiet(t, "its reply", m, 1)
	wantEnd(t, "its reply", m, Result{Poll: -1, Write: 1, Slave: 1, OK: true})
}

func TestExceptionsOfReads(t *testing.T) { // P10.2
	p := register(1, 4, 6)
	for code := 1; code <= 255; code++ {
		c := conf(register(0, 0, 10000), p)
		c.Retries = 5
		m := made(t, c)
		m.Tick()
		hear(m, answering(t, 17, readOf(c.Polls[0]), pdu.Reply{Values: []int{1}})...)
		m.Tick()
		m.Tick()
		wantSent(t, "refused", m, asking(t, 3, readOf(p)))
		hear(m, framed(t, 3, 0x83, byte(code))...)
		wantQuiet(t, "refused", m, 1)
		// It is a reply, so that the read is not repeated, and a read that failed.
		wantEnd(t, "refused", m, Result{Poll: 1, Slave: 1, Code: code})
		wantQuiet(t, "refused", m, 5)
		wantSent(t, "refused", m, asking(t, 3, readOf(p)))
		hear(m, framed(t, 3, 0x83, byte(code))...)
		wantQuiet(t, "refused", m, 1)
		wantEnd(t, "refused", m, Result{Poll: 1, Slave: 1, Offline: true, Code: code})
		wantOffline(t, "refused", m, false, true)
	}
}

func TestRepliesInTimeAndTooLate(t *testing.T) { // P10.2
	for reply := 1; reply <= 12; reply++ {
		for silence := 1; silence <= reply; silence++ {
			c := conf(register(0, 3, 50))
			c.Reply, c.Silence, c.Retries = reply, silence, 0
			for at := range reply {
				m := made(t, c)
				wantSent(t, "waiting", m, asking(t, 17, readOf(c.Polls[0])))
				wantQuiet(t, "waiting", m, at)
				hear(m, answering(t, 17, readOf(c.Polls[0]), pdu.Reply{Values: []int{8}})...)
				if at+silence <= reply {
					// The last of these ticks is the one in which the waiting time is over.
					wantQuiet(t, "in time", m, silence-1)
					wantEnd(t, "in time", m, Result{OK: true, Values: []int{8}})
				} else {
					wantQuiet(t, "too late", m, reply-at-1)
					wantEnd(t, "too late", m, Result{Code: -1})
				}
				wantQuiet(t, "behind it", m, 49)
			}
		}
	}
}

func TestALateReplyIsDroppedByTheRepeatedRead(t *testing.T) { // P10.2
	c := conf(register(0, 3, 50))
	frame, reply := asking(t, 17, readOf(c.Polls[0])), answering(t, 17, readOf(c.Polls[0]), pdu.Reply{Values: []int{8}})
	for n := range len(reply) + 1 {
		m := made(t, c)
		wantSent(t, "late", m, frame)
		wantQuiet(t, "late", m, 4)
		hear(m, reply[:n]...)
		wantSent(t, "late", m, frame)
		// The rest alone is no frame, unless it is all of it.
		hear(m, reply[n:]...)
		wantQuiet(t, "late", m, 1)
		if n == 0 {
			wantEnd(t, "in time", m, Result{OK: true, Values: []int{8}})
			continue
		}
		wantQuiet(t, "late", m, 1)
		hear(m, reply...)
		wantQuiet(t, "in time", m, 1)
		wantEnd(t, "in time", m, Result{OK: true, Values: []int{8}})
	}
}

func TestALateReplyIsDroppedByTheNextRequest(t *testing.T) { // P10.2
	c := conf(register(0, 3, 1))
	c.Retries, c.Offline = 0, 10
	frame, reply := asking(t, 17, readOf(c.Polls[0])), answering(t, 17, readOf(c.Polls[0]), pdu.Reply{Values: []int{8}})
	for n := 1; n <= len(reply); n++ {
		m := made(t, c)
		wantSent(t, "late", m, frame)
		wantQuiet(t, "late", m, 4)
		hear(m, reply[:n]...)
		wantEnd(t, "late", m, Result{Code: -1})
		hear(m, reply[n:]...)
		wantSent(t, "the next one", m, frame)
		wantQuiet(t, "the next one", m, 2)
		hear(m, reply...)
		wantQuiet(t, "the next one", m, 1)
		wantEnd(t, "the next one", m, Result{OK: true, Values: []int{8}})
	}
}

func TestBytesThatNobodyAskedFor(t *testing.T) { // P10.2
	c := conf(register(0, 3, 4))
	m := made(t, c)
	frame, reply := asking(t, 17, readOf(c.Polls[0])), answering(t, 17, readOf(c.Polls[0]), pdu.Reply{Values: []int{8}})
	hear(m, reply...)
	if m.framer.Pending() != 0 {
		t.Error("bytes are kept ahead of the first request")
	}
	wantSent(t, "the first", m, frame)
	wantQuiet(t, "the first", m, 2)
	hear(m, reply...)
	if m.framer.Pending() != len(reply) {
		t.Error("bytes are not kept while a request is outstanding")
	}
	wantQuiet(t, "the first", m, 1)
	wantEnd(t, "the first", m, Result{OK: true, Values: []int{8}})
	for range 3 {
		hear(m, reply...)
		if m.framer.Pending() != 0 {
			t.Error("bytes are kept between two requests")
		}
		wantQuiet(t, "between", m, 1)
	}
	hear(m, reply...)
	wantSent(t, "the second", m, frame)
	wantQuiet(t, "the second", m, 3)
	hear(m, reply[:4]...)
	wantQuiet(t, "the second", m, 1)
	wantSent(t, "the second again", m, frame)
}

func TestARepliesBytesMayComeOverSomeTicks(t *testing.T) { // P10.2
	c := conf(register(0, 3, 4))
	c.Reply, c.Silence = 40, 3
	m := made(t, c)
	wantSent(t, "slow", m, asking(t, 17, readOf(c.Polls[0])))
	for _, b := range answering(t, 17, readOf(c.Polls[0]), pdu.Reply{Values: []int{8}}) {
		wantQuiet(t, "slow", m, 2)
		m.Byte(b)
	}
	wantQuiet(t, "slow", m, 2)
	wantEnd(t, "slow", m, Result{OK: true, Values: []int{8}})
	// With more silence it is in two parts, of which none is a reply.
	wantQuiet(t, "cut", m, 3)
	wantSent(t, "cut", m, asking(t, 17, readOf(c.Polls[0])))
	reply := answering(t, 17, readOf(c.Polls[0]), pdu.Reply{Values: []int{8}})
	hear(m, reply[:5]...)
	wantQuiet(t, "cut", m, 3)
	hear(m, reply[5:]...)
	wantQuiet(t, "cut", m, 36)
	wantSent(t, "cut", m, asking(t, 17, readOf(c.Polls[0])))
}

// wrongReplies are frames that are no reply of the slave 17 to a read of two registers.
func wrongReplies(t *testing.T, p api.Poll) [][]byte {
	t.Helper()
	reply := answering(t, 17, readOf(p), pdu.Reply{Values: []int{0x1234, 9}})
	turned := slices.Clone(reply)
	slices.Reverse(turned)
	list := [][]byte{turned, append(slices.Clone(reply), 0), append([]byte{17}, reply...), slices.Concat(reply, reply)}
	for n := 1; n < len(reply); n++ {
		list = append(list, reply[:n], reply[n:])
	}
	for i := range 8 * len(reply) {
		b := slices.Clone(reply)
		b[i/8] ^= 1 << (i % 8)
		list = append(list, b)
	}
	for i := 1; i < len(reply); i++ {
		b := slices.Clone(reply)
		b[i-1], b[i] = b[i], b[i-1]
		list = append(list, b)
	}
	for _, address := range []int{0, 1, 3, 16, 18, 128 + 17, 247, 255} {
		list = append(list, answering(t, address, readOf(p), pdu.Reply{Values: []int{0x1234, 9}}), framed(t, address, 0x83, 2))
	}
	for _, text := range []string{
		"03", "04 04 12 34 00 09", "83", "83 00", "83 02 00", "84 02", "82 02", "03 04 12 34 00", "03 04 12 34 00 09 00", "03 02 12 34",
		"03 06 12 34 00 09 00 00", "03 05 12 34 00 09", "03 00", "06 04 12 34 00 09", "03 00 6B 00 02", "05 00 6B FF 00", "00", "80 01",
	} {
		list = append(list, framed(t, 17, fromHex(t, text)...))
	}
	return append(list, bytes.Repeat([]byte{17}, 256), bytes.Repeat(reply, 40), framed(t, 17, bytes.Repeat([]byte{3}, 253)...))
}

func TestFramesThatAreNoReplies(t *testing.T) { // P10.2
	p := api.Poll{Func: 3, Start: 107, Count: 2, Every: 9}
	c := conf(p)
	c.Reply = 6
	frame := asking(t, 17, readOf(p))
	for _, wrong := range wrongReplies(t, p) {
		m := made(t, c)
		wantSent(t, "asked", m, frame)
		hear(m, wrong...)
		// They leave the waiting time as it is.
		wantQuiet(t, "a wrong reply", m, 5)
		wantSent(t, "asked again", m, frame)
		hear(m, wrong...)
		wantQuiet(t, "a wrong reply", m, 2)
		hear(m, answering(t, 17, readOf(p), pdu.Reply{Values: []int{0x1234, 9}})...)
		wantQuiet(t, "the right one behind it", m, 1)
		wantEnd(t, "the right one behind it", m, Result{OK: true, Values: []int{0x1234, 9}})
	}
}

func TestFramesThatAreNoRepliesToAWrite(t *testing.T) { // P10.2
	m, number := made(t, conf()), 0
	right := framed(t, 3, fromHex(t, "06 00 6B 12 34")...)
	wrong := [][]byte{right[:7], right[1:], framed(t, 17, right[1:6]...), append(slices.Clone(right), 0)}
	for _, text := range []string{"06 00 6B 12 35", "06 00 6C 12 34", "06 00 6B", "05 00 6B FF 00", "03 02 00 00", "86", "86 00", "85 01", "06 00 6B 12 34 00", "06"} {
		wrong = append(wrong, framed(t, 3, fromHex(t, text)...))
	}
	for _, b := range wrong {
		number++
		queue(t, m, 1, 6, 0x6B, 0x1234, number)
		wantSent(t, "a write", m, right)
		hear(m, b...)
		wantQuiet(t, "a wrong reply", m, 4)
		wantEnd(t, "a wrong reply", m, Result{Poll: -1, Write: number, Slave: 1, Code: -1})
		number++
		queue(t, m, 1, 6, 0x6B, 0x1234, number)
		wantSent(t, "a write", m, right)
		hear(m, b...)
		wantQuiet(t, "a wrong reply", m, 2)
		hear(m, right...)
		wantQuiet(t, "the right one behind it", m, 1)
		wantEnd(t, "the right one behind it", m, Result{Poll: -1, Write: number, Slave: 1, OK: true})
	}
}

func TestReadsAreRepeated(t *testing.T) { // P10.2
	for retries := range 6 {
		for _, reply := range []int{1, 2, 5, 30} {
			c := conf(register(1, 3, 7))
			c.Retries, c.Reply, c.Silence, c.Offline = retries, reply, 1, 10
			m := made(t, c)
			frame := asking(t, 3, readOf(c.Polls[0]))
			for range 3 {
				wantSent(t, "the first", m, frame)
				isOver(t, "repeated", m, c, frame, Result{Slave: 1, Code: -1})
				wantQuiet(t, "not due", m, 6)
			}
			if want := 3 * (1 + (1+retries)*reply + 6); m.Now() != want {
				t.Errorf("%d retries of %d ticks: Now is %d, not %d", retries, reply, m.Now(), want)
			}
		}
	}
}

func TestAReplyToARepeatedRead(t *testing.T) { // P10.2
	for retries := range 6 {
		c := conf(register(1, 3, 7))
		c.Retries = retries
		frame := asking(t, 3, readOf(c.Polls[0]))
		for _, p := range []pdu.Reply{{Values: []int{6}}, {Code: 6}} {
			m := made(t, c)
			wantSent(t, "the first", m, frame)
			for range retries {
				wantQuiet(t, "without a reply", m, 4)
				wantSent(t, "repeated", m, frame)
			}
			wantQuiet(t, "ahead of the reply", m, 3)
			hear(m, answering(t, 3, readOf(c.Polls[0]), p)...)
			wantQuiet(t, "the reply", m, 1)
			wantEnd(t, "the reply", m, Result{Slave: 1, OK: p.Code == 0, Code: p.Code, Values: p.Values})
			// The next read is repeated as often.
			wantQuiet(t, "not due", m, 6)
			wantSent(t, "the next", m, frame)
			isOver(t, "the next", m, c, frame, Result{Slave: 1, Offline: p.Code != 0, Code: -1})
		}
	}
}

func TestWritesAreNotRepeated(t *testing.T) { // P10.2, P10.5
	for retries := range 6 {
		for _, reply := range []int{1, 2, 5, 30} {
			c := conf()
			c.Retries, c.Reply, c.Silence = retries, reply, 1
			m := made(t, c)
			for number := 1; number <= 3; number++ {
				queue(t, m, 1, 5, 30, 1, number)
				wantSent(t, "a write", m, asking(t, 3, writeOf(5, 30, 1)))
				wantQuiet(t, "a write", m, reply-1)
				wantEnd(t, "a write", m, Result{Poll: -1, Write: number, Slave: 1, Code: -1})
			}
			wantQuiet(t, "behind the writes", m, 100)
		}
	}
}

func TestExceptionsOfWrites(t *testing.T) { // P10.2
	m, number := made(t, conf()), 0
	for code := 1; code <= 255; code++ {
		for fn := 5; fn <= 6; fn++ {
			number++
			queue(t, m, 1, fn, 30, 1, number)
			wantSent(t, "a write", m, asking(t, 3, writeOf(fn, 30, 1)))
			hear(m, framed(t, 3, byte(fn+128), byte(code))...)
			wantQuiet(t, "a write", m, 1)
			wantEnd(t, "a write", m, Result{Poll: -1, Write: number, Slave: 1, Code: code})
		}
	}
	wantOffline(t, "refused writes", m, false, false)
}

func TestASlaveGoesOfflineAndComesBack(t *testing.T) { // P10.2, P10.3
	for offline := 1; offline <= 10; offline++ {
		for retries := range 3 {
			c := conf(register(1, 3, 7))
			c.Retries, c.Offline = retries, offline
			m := made(t, c)
			frame := asking(t, 3, readOf(c.Polls[0]))
			for range 2 {
				for failed := 1; failed <= offline+3; failed++ {
					wantOffline(t, "failing", m, false, failed > offline)
					wantSent(t, "failing", m, frame)
					isOver(t, "failing", m, c, frame, Result{Slave: 1, Offline: failed >= offline, Code: -1})
					wantOffline(t, "failing", m, false, failed >= offline)
					wantQuiet(t, "not due", m, 6)
				}
				wantSent(t, "back", m, frame)
				hear(m, answering(t, 3, readOf(c.Polls[0]), pdu.Reply{Values: []int{6}})...)
				wantQuiet(t, "back", m, 1)
				wantOffline(t, "not yet back", m, false, true)
				wantEnd(t, "back", m, Result{Slave: 1, OK: true, Values: []int{6}})
				wantOffline(t, "back", m, false, false)
				wantQuiet(t, "not due", m, 6)
			}
		}
	}
}

func TestOnlyReadsInARowCount(t *testing.T) { // P10.2
	c := conf(register(1, 3, 7))
	c.Retries, c.Offline = 0, 3
	m := made(t, c)
	// Each letter is a read: without a reply, refused, or OK.
	failed := 0
	for _, how := range "nnonronrnonnnrono" {
		wantSent(t, "in a row", m, asking(t, 3, readOf(c.Polls[0])))
		switch how {
		case 'n':
			failed++
			wantQuiet(t, "in a row", m, 4)
			wantEnd(t, "in a row", m, Result{Slave: 1, Offline: failed >= 3, Code: -1})
		case 'r':
			failed++
			hear(m, framed(t, 3, 0x83, 4)...)
			wantQuiet(t, "in a row", m, 1)
			wantEnd(t, "in a row", m, Result{Slave: 1, Offline: failed >= 3, Code: 4})
		case 'o':
			failed = 0
			hear(m, framed(t, 3, 3, 2, 0, 0)...)
			wantQuiet(t, "in a row", m, 1)
			wantEnd(t, "in a row", m, Result{Slave: 1, OK: true, Values: []int{0}})
		}
		wantQuiet(t, "not due", m, 6)
	}
}

func TestEachSlaveCountsForItself(t *testing.T) { // P10.2, P10.3
	// The polls 0 and 2 are of one slave, the polls 1 and 3 of the other; the latter alone replies.
	c := conf(register(0, 0, 10), register(1, 1, 10), register(0, 2, 10), register(1, 3, 10))
	c.Retries, c.Offline = 0, 3
	m := made(t, c)
	for turn := range 6 {
		for i, p := range c.Polls {
			wantSent(t, "of two", m, asking(t, c.Slaves[p.Slave], readOf(p)))
			if p.Slave == 1 {
				hear(m, framed(t, 3, 3, 2, 0, byte(i))...)
				wantQuiet(t, "of two", m, 1)
				wantEnd(t, "of two", m, Result{Poll: i, Slave: 1, OK: true, Values: []int{i}})
			} else {
				failed := 2*turn + 1 + i/2
				wantQuiet(t, "of two", m, 4)
				wantEnd(t, "of two", m, Result{Poll: i, Offline: failed >= 3, Code: -1})
			}
			wantOffline(t, "of two", m, 2*turn+1+i/2 >= 3, false)
		}
	}
}

func TestWritesDoNotCountForOffline(t *testing.T) { // P10.2
	c := conf(register(0, 3, 10000))
	c.Offline = 1
	m := made(t, c)
	wantSent(t, "the read", m, asking(t, 17, readOf(c.Polls[0])))
	hear(m, framed(t, 17, 3, 2, 0, 0)...)
	wantQuiet(t, "the read", m, 1)
	wantEnd(t, "the read", m, Result{OK: true, Values: []int{0}})
	for number := 1; number <= 12; number++ {
		queue(t, m, 0, 6, 1, 2, number)
		wantSent(t, "a write", m, asking(t, 17, writeOf(6, 1, 2)))
		wantQuiet(t, "a write", m, 4)
		wantEnd(t, "a write", m, Result{Poll: -1, Write: number, Code: -1})
		wantOffline(t, "writes that fail", m, false, false)
	}
	for m.Now() < 10003 {
		m.Tick()
	}
	isOver(t, "the read that fails", m, c, asking(t, 17, readOf(c.Polls[0])), Result{Offline: true, Code: -1})
	for number := 13; number <= 15; number++ {
		queue(t, m, 0, 6, 1, 2, number)
		wantSent(t, "a write", m, asking(t, 17, writeOf(6, 1, 2)))
		hear(m, asking(t, 17, writeOf(6, 1, 2))...)
		wantQuiet(t, "a write", m, 1)
		wantEnd(t, "a write", m, Result{Poll: -1, Write: number, OK: true, Offline: true})
		wantOffline(t, "writes that succeed", m, true, false)
	}
	queue(t, m, 1, 6, 1, 2, 16)
	wantSent(t, "to the other slave", m, asking(t, 3, writeOf(6, 1, 2)))
	wantQuiet(t, "to the other slave", m, 4)
	wantEnd(t, "to the other slave", m, Result{Poll: -1, Write: 16, Slave: 1, Code: -1})
}

func TestNothingIsSentInTheTickOfAnEnd(t *testing.T) { // P10.2
	c := conf(register(0, 3, 1), register(1, 4, 1))
	c.Reply, c.Silence, c.Retries, c.Offline = 1, 1, 0, 10
	m := made(t, c)
	frames := [][]byte{asking(t, 17, readOf(c.Polls[0])), asking(t, 3, readOf(c.Polls[1]))}
	queue(t, m, 0, 6, 1, 2, 1)
	queue(t, m, 1, 6, 1, 2, 2)
	// wantEnd finds no bytes in its tick, and wantSent no Result.
	wantSent(t, "a write", m, asking(t, 17, writeOf(6, 1, 2)))
	hear(m, asking(t, 17, writeOf(6, 1, 2))...)
	wantEnd(t, "a write", m, Result{Poll: -1, Write: 1, OK: true})
	wantSent(t, "a write", m, asking(t, 3, writeOf(6, 1, 2)))
	wantEnd(t, "a write", m, Result{Poll: -1, Write: 2, Slave: 1, Code: -1})
	for turn := range 20 {
		wantSent(t, "a read", m, frames[0])
		hear(m, framed(t, 17, 3, 2, 0, byte(turn))...)
		wantEnd(t, "a read", m, Result{OK: true, Values: []int{turn}})
		wantSent(t, "a read", m, frames[1])
		wantEnd(t, "a read", m, Result{Poll: 1, Slave: 1, Code: -1, Offline: turn >= 9})
	}
}

func TestWritesGoAheadOfPolls(t *testing.T) { // P10.2
	c := conf(register(0, 3, 1), register(1, 4, 1))
	c.Retries = 1
	m := made(t, c)
	frame := asking(t, 17, readOf(c.Polls[0]))
	wantSent(t, "the read", m, frame)
	for i := range 4 {
		queue(t, m, 1-i%2, 6, 10+i, 2, i+1)
	}
	// A read that is outstanding stays, and is repeated ahead of them.
	isOver(t, "the read", m, c, frame, Result{Code: -1})
	for i := range 4 {
		wantSent(t, "the writes", m, asking(t, []int{3, 17}[i%2], writeOf(6, 10+i, 2)))
		if i == 0 {
			queue(t, m, 0, 5, 99, 0, 5)
		}
		wantQuiet(t, "the writes", m, 4)
		wantEnd(t, "the writes", m, Result{Poll: -1, Write: i + 1, Slave: 1 - i%2, Code: -1})
	}
	wantSent(t, "the last write", m, asking(t, 17, writeOf(5, 99, 0)))
	wantQuiet(t, "the last write", m, 4)
	wantEnd(t, "the last write", m, Result{Poll: -1, Write: 5, Code: -1})
	wantSent(t, "the polls again", m, asking(t, 3, readOf(c.Polls[1])))
}

func TestPollsAreDueByTheirEnds(t *testing.T) { // P10.2
	// A poll is due again one interval behind its end, however it ended.
	for _, every := range []int{1, 2, 3, 10, 77, 10000} {
		c := conf(register(1, 4, every))
		m := made(t, c)
		frame := asking(t, 3, readOf(c.Polls[0]))
		wantSent(t, "without a reply", m, frame)
		isOver(t, "without a reply", m, c, frame, Result{Slave: 1, Code: -1})
		wantQuiet(t, "not due", m, every-1)
		wantSent(t, "refused", m, frame)
		wantQuiet(t, "refused", m, 2)
		hear(m, framed(t, 3, 0x83, 1)...)
		wantQuiet(t, "refused", m, 1)
		wantEnd(t, "refused", m, Result{Slave: 1, Offline: true, Code: 1})
		wantQuiet(t, "not due", m, every-1)
		wantSent(t, "OK", m, frame)
		wantQuiet(t, "OK", m, 1)
		hear(m, framed(t, 3, 3, 2, 0, 1)...)
		wantQuiet(t, "OK", m, 1)
		wantEnd(t, "OK", m, Result{Slave: 1, OK: true, Values: []int{1}})
		wantQuiet(t, "not due", m, every-1)
		wantSent(t, "the last", m, frame)
	}
}

func TestPollsByTheSchedule(t *testing.T) { // P10.2
	c := conf(register(0, 0, 6), register(1, 1, 2), register(0, 2, 9))
	c.Silence = 1
	m := made(t, c)
	// Each takes two ticks. They are due again at 8, 6 and 15, then the polls 1, 0 and 1 at 10, 16 and 14, and so on.
	// From 26 on the polls 1 and 2 are due both.
	for _, want := range []struct{ at, poll int }{
		{1, 0}, {3, 1}, {5, 2}, {7, 1}, {9, 0}, {11, 1}, {14, 1}, {16, 2}, {18, 0}, {20, 1}, {23, 1}, {25, 0}, {27, 1}, {29, 2}, {31, 1},
	} {
		p := c.Polls[want.poll]
		wantQuiet(t, "not due", m, want.at-1-m.Now())
		wantSent(t, "by the schedule", m, asking(t, c.Slaves[p.Slave], readOf(p)))
		hear(m, answering(t, c.Slaves[p.Slave], readOf(p), pdu.Reply{Values: []int{want.at}})...)
		wantEnd(t, "by the schedule", m, Result{Poll: want.poll, Slave: p.Slave, OK: true, Values: []int{want.at}})
	}
}

func TestAllPollsComeInTurn(t *testing.T) { // P10.2
	for n := 1; n <= api.MaxPolls; n++ {
		c := conf(countOf(n, 2, 1)...)
		c.Silence = 1
		m := made(t, c)
		for turn := range 4 * n {
			i := turn % n
			frame := asking(t, c.Slaves[i%2], readOf(c.Polls[i]))
			wantSent(t, "in turn", m, frame)
			hear(m, answering(t, c.Slaves[i%2], readOf(c.Polls[i]), pdu.Reply{Values: []int{i}})...)
			wantEnd(t, "in turn", m, Result{Poll: i, Slave: i % 2, OK: true, Values: []int{i}})
		}
	}
}

func TestWritesLeaveTheScheduleAsItIs(t *testing.T) { // P10.2
	for _, ok := range []bool{true, false} {
		c := conf(register(0, 3, 20))
		m := made(t, c)
		wantSent(t, "the read", m, asking(t, 17, readOf(c.Polls[0])))
		hear(m, framed(t, 17, 3, 2, 0, 1)...)
		wantQuiet(t, "the read", m, 1)
		wantEnd(t, "the read", m, Result{OK: true, Values: []int{1}}) // at 3
		queue(t, m, 0, 6, 1, 2, 1)
		wantSent(t, "the write", m, asking(t, 17, writeOf(6, 1, 2)))
		if ok {
			hear(m, asking(t, 17, writeOf(6, 1, 2))...)
			wantQuiet(t, "the write", m, 1)
		} else {
			wantQuiet(t, "the write", m, 4)
		}
		m.Tick()
		wantQuiet(t, "not due", m, 22-m.Now())
		wantSent(t, "due", m, asking(t, 17, readOf(c.Polls[0])))
	}
}

func TestTimeEndsAtMaxTime(t *testing.T) { // P10.2, P10.3
	c := conf(register(0, 3, 2), register(1, 4, 10000))
	m := made(t, c)
	// So many ticks can't be made one by one.
	m.now = api.MaxTime - 9
	frame := asking(t, 17, readOf(c.Polls[0]))
	wantSent(t, "at MaxTime - 8", m, frame)
	hear(m, framed(t, 17, 3, 2, 0, 1)...)
	wantQuiet(t, "at MaxTime - 7", m, 1)
	wantEnd(t, "at MaxTime - 6", m, Result{OK: true, Values: []int{1}})
	wantSent(t, "at MaxTime - 5", m, asking(t, 3, readOf(c.Polls[1])))
	isOver(t, "to MaxTime and beyond", m, c, asking(t, 3, readOf(c.Polls[1])), Result{Poll: 1, Slave: 1, Code: -1})
	if m.Now() != api.MaxTime {
		t.Errorf("Now is %d, not MaxTime", m.Now())
	}
	// This one was due at MaxTime - 4; behind its end, no poll is due any more.
	wantSent(t, "at MaxTime", m, frame)
	isOver(t, "at MaxTime", m, c, frame, Result{Code: -1})
	wantQuiet(t, "at MaxTime", m, 10100)
	queue(t, m, 1, 6, 1, 2, 1)
	wantSent(t, "at MaxTime", m, asking(t, 3, writeOf(6, 1, 2)))
	wantQuiet(t, "at MaxTime", m, 4)
	wantEnd(t, "at MaxTime", m, Result{Poll: -1, Write: 1, Slave: 1, Code: -1})
	if m.Now() != api.MaxTime || m.Copy().Now() != api.MaxTime {
		t.Errorf("Now is %d, not MaxTime", m.Now())
	}
}

func TestTheTickBeforeMaxTime(t *testing.T) { // P10.2, P10.3
	for ahead := range 4 {
		m := made(t, conf())
		m.now = api.MaxTime - ahead
		for n := range 6 {
			if want := api.MaxTime - max(ahead-n, 0); m.Now() != want {
				t.Errorf("Now is %d behind %d ticks, not %d", m.Now(), n, want)
			}
			m.Tick()
		}
	}
}
