package wire

import (
	"bytes"

	"sheaves/api"
)

// Decode a message.
func Decode(b []byte) (api.Message, api.Errno) {
	m, e := read(b)
	if e == api.OK {
		e = Check(m)
	}
	if e != api.OK {
		return api.Message{}, e
	}
	return m, api.OK
}

// read a message that the bytes tell, whether it may be or not.
func read(b []byte) (api.Message, api.Errno) {
	if len(b) > api.MaxData {
		return api.Message{}, api.ErrSize
	}
	if len(b) == 0 {
		return api.Message{}, api.ErrShort
	}
	if !isKind(int(b[0])) {
		return api.Message{}, api.ErrKind
	}
	r := reader{left: b}
	m := r.message()
	if r.short {
		return api.Message{}, api.ErrShort
	}
	if len(r.left) > 0 {
		return api.Message{}, api.ErrForm
	}
	return m, api.OK
}

// A reader goes through bytes. Once they ended too early it reads zeros: what
// it reads then is not asked for any more.
type reader struct {
	left  []byte
	short bool
}

func (r *reader) message() api.Message {
	m := api.Message{Kind: r.number(1), From: r.number(1), To: r.number(1)}
	switch m.Kind {
	case api.Bundle:
		m.Batch = r.batch()
	case api.Offer:
		m.Header = r.header()
	case api.Vote:
		m.Slot = r.slot()
	case api.Proof:
		m.Cert = r.cert()
	case api.Want:
		m.Round = r.round()
	}
	return m
}

func (r *reader) batch() api.Batch {
	b := api.Batch{Author: r.number(1), Number: r.round()}
	for range r.number(1) {
		b.Txs = append(b.Txs, string(r.take(r.number(1))))
	}
	return b
}

func (r *reader) header() api.Header {
	return api.Header{
		Author:  r.number(1),
		Round:   r.round(),
		Batches: r.digests(),
		Parents: r.digests(),
	}
}

func (r *reader) cert() api.Cert {
	c := api.Cert{Header: r.header()}
	for range r.number(1) {
		c.Voters = append(c.Voters, r.number(1))
	}
	return c
}

func (r *reader) slot() api.Slot {
	return api.Slot{Author: r.number(1), Round: r.round(), Digest: r.digest()}
}

func (r *reader) digests() [][]byte {
	var l [][]byte
	for range r.number(1) {
		l = append(l, r.digest())
	}
	return l
}

// digest is new memory: what is answered shares none with what was handed in.
func (r *reader) digest() []byte { return bytes.Clone(r.take(digestSize)) }

// round, or a number of a batch.
func (r *reader) round() int { return r.number(3) }

// number of so many bytes, the highest one first.
func (r *reader) number(size int) int {
	n := 0
	for _, x := range r.take(size) {
		n = n<<8 | int(x)
	}
	return n
}

func (r *reader) take(n int) []byte {
	if n > len(r.left) {
		r.short = true
	}
	if r.short {
		return nil
	}
	taken := r.left[:n]
	r.left = r.left[n:]
	return taken
}
