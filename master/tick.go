package master

import (
	"slices"

	"switchyard/api"
	"switchyard/pdu"
	"switchyard/rtu"
)

// Tick is one more tick of the line: it tells the bytes to be sent, or how a request ended. The two ways to end a request
// have one case for it, and so have the two ways to send one.
func (m *Master) Tick() ([]byte, Result, bool) {
	m.now = min(m.now+1, api.MaxTime)
	reply, replied := m.listen()
	switch {
	case !replied && m.isOver() && !m.mayRepeat():
		reply.Code = noReply
		fallthrough
	case replied:
		return nil, m.finish(reply), true
	case !m.Busy():
		if !m.choose() {
			break
		}
		fallthrough
	case m.isOver():
		return m.send(), Result{}, false
	}
	return nil, Result{}, false
}

// listen is a tick of waiting, and gives the reply to the outstanding request if that ends in it.
func (m *Master) listen() (pdu.Reply, bool) {
	if !m.Busy() {
		return pdu.Reply{}, false
	}
	m.current.waited++
	frame, ended := m.framer.Tick()
	if !ended {
		return pdu.Reply{}, false
	}
	address, data, err := rtu.Open(frame)
	if err != nil || address != m.slaves[m.current.slave].address {
		return pdu.Reply{}, false
	}
	reply, err := pdu.Read(m.current.asked, data)
	return reply, err == nil
}

func (m *Master) isOver() bool { return m.current.waited >= m.reply }

// mayRepeat is for reads alone: a slave may have done a write whose reply was lost.
func (m *Master) mayRepeat() bool {
	return m.current.isRead() && m.current.sent < 1+m.retries && !m.Offline(m.current.slave)
}

// finish ends the outstanding request.
func (m *Master) finish(p pdu.Reply) Result {
	ended := m.current
	m.current = request{}
	if ended.isRead() {
		// The poll is one of the schedule, and the time is held within its bounds.
		_ = m.schedule.Done(ended.poll, m.now)
		m.count(ended.slave, p.Code)
	}
	return Result{
		Poll: ended.poll, Write: ended.write, Slave: ended.slave,
		OK: p.Code == 0, Offline: m.Offline(ended.slave),
		Code: p.Code, Values: p.Values,
	}
}

// count adds a read that ended with the code to what is known of the slave.
func (m *Master) count(slave, code int) {
	m.slaves[slave].failed++
	if code == 0 {
		m.slaves[slave].failed = 0
	}
}

// choose makes the request that comes next the current one, if there is any: writes go ahead of reads.
func (m *Master) choose() bool {
	if len(m.queue) > 0 {
		m.current = m.queue[0]
		m.queue = slices.Delete(m.queue, 0, 1)
		return true
	}
	i, found := m.schedule.Next(m.now)
	if found {
		m.current = m.reads[i]
	}
	return found
}

// send gives the frame of the current request, and begins to wait for the reply.
func (m *Master) send() []byte {
	m.current.sent++
	m.current.waited = 0
	m.framer.Drop()
	// Check and Write hold every request within what these two take.
	data, _ := pdu.Encode(m.current.asked)
	frame, _ := rtu.Frame(m.slaves[m.current.slave].address, data)
	return frame
}

func (r request) isRead() bool { return r.poll != noPoll }
