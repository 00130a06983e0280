package dag

import (
	"bytes"
	"slices"

	"sheaves/api"
	"sheaves/wire"
)

// A stock has a dag's certificates and, at the same places, their digests:
// each of these is worked out once a call, as most of the time goes there.
type stock struct {
	certs   []api.Cert
	digests [][]byte
}

// open a dag that may be.
func open(d api.Dag) (stock, api.Errno) {
	if len(d.Certs) > api.MaxCerts {
		return stock{}, api.ErrState
	}
	s := stock{digests: make([][]byte, 0, len(d.Certs))}
	for i, c := range d.Certs {
		if wire.CheckCert(c) != api.OK || s.takes(c.Header) != api.OK {
			return stock{}, api.ErrState
		}
		digest, e := wire.HeaderDigest(c.Header)
		if e != api.OK {
			return stock{}, api.ErrState
		}
		s = stock{certs: d.Certs[:i+1], digests: append(s.digests, digest)}
	}
	return s, api.OK
}

// takes: may a header's certificate stand behind those that are there?
func (s stock) takes(h api.Header) api.Errno {
	if s.of(h.Author, h.Round) >= 0 {
		return api.ErrTwice
	}
	missed, e := s.missing(h)
	if e != api.OK {
		return e
	}
	if len(missed) > 0 {
		return api.ErrNone
	}
	return api.OK
}

// missing parents of a header. All are looked at, as one of a wrong round is
// told ahead of one that is missing.
func (s stock) missing(h api.Header) ([][]byte, api.Errno) {
	var missed [][]byte
	for _, parent := range h.Parents {
		at := s.withDigest(parent)
		if at < 0 {
			missed = append(missed, parent)
			continue
		}
		if s.certs[at].Header.Round != h.Round-1 {
			return nil, api.ErrOrder
		}
	}
	return missed, api.OK
}

// digestsOf a round's certificates, by their authors.
func (s stock) digestsOf(round int) [][]byte {
	var l [][]byte
	for author := range api.Nodes {
		if at := s.of(author, round); at >= 0 {
			l = append(l, s.digests[at])
		}
	}
	return l
}

// of: the place of the certificate of an author and a round; below 0: there is none.
func (s stock) of(author, round int) int {
	same := func(c api.Cert) bool { return c.Header.Author == author && c.Header.Round == round }
	return slices.IndexFunc(s.certs, same)
}

// withDigest: the place of the certificate of a digest; below 0: there is none.
func (s stock) withDigest(k []byte) int {
	same := func(digest []byte) bool { return bytes.Equal(digest, k) }
	return slices.IndexFunc(s.digests, same)
}
