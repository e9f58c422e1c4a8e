package pdu

import (
	"bytes"

	"switchyard/api"
	"switchyard/wire"
)

// exception is added to the function code of a request that is refused; maxCode is the greatest reason for it.
const (
	exception = 128
	maxCode   = 255
)

// Answer is the bytes of a reply to a request.
func Answer(r Request, p Reply) ([]byte, error) {
	if !May(r) || !mayReply(r, p) {
		return nil, fault(r.Func, api.ErrRange)
	}
	w := wire.NewWriter()
	switch {
	case p.Code != 0:
		w.B(1, r.Func+exception)
		w.B(1, p.Code)
	case formatOf(r.Func).reads:
		w.B(1, r.Func)
		putValues(w, r.Func, p.Values)
	default:
		putHead(w, r)
	}
	return w.Out(), nil
}

// Read is the reply to r that b tells.
func Read(r Request, b []byte) (Reply, error) {
	if !May(r) {
		return Reply{}, fault(r.Func, api.ErrRange)
	}
	if len(b) == 0 {
		return Reply{}, fault(0, api.ErrShort)
	}
	first := int(b[0])
	if first != r.Func && first != r.Func+exception {
		return Reply{}, fault(first, api.ErrKind)
	}
	p := parseReply(r, b)
	if answer, err := Answer(r, p); err != nil || !bytes.Equal(answer, b) {
		return Reply{}, fault(first, api.ErrForm)
	}
	return p, nil
}

// mayReply tells whether p can be a reply to r, which must be valid.
func mayReply(r Request, p Reply) bool {
	f := formatOf(r.Func)
	wanted := 0
	if p.Code == 0 && f.reads {
		wanted = r.Count
	}
	return isWithin(p.Code, 0, maxCode) && areValues(p.Values, wanted, f.top)
}

// parseReply gives the reply if b is the answer of one to r. From other bytes it makes up one: Read refuses it,
// since its answer is not b.
func parseReply(r Request, b []byte) Reply {
	in := wire.NewReader(b)
	first, _ := in.B(1)
	switch {
	case first != r.Func:
		code, _ := in.B(1)
		return Reply{Code: code}
	case formatOf(r.Func).reads:
		return Reply{Values: takeValues(in, r.Func, r.Count)}
	}
	return Reply{}
}
