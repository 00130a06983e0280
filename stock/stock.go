// Package stock: certificates, each behind its parents, with their digests at
// hand. What package dag tells of a dag it tells from a stock that it opens for
// that call; who keeps certificates for long keeps a stock.
package stock

import (
	"bytes"
	"slices"

	"sheaves/api"
	"sheaves/wire"
)

// A Stock has certificates and, at the same places, their digests: each of
// these is worked out once, as most of the time goes there.
type Stock struct {
	certs   []api.Cert
	digests [][]byte
}

// Open a dag that may be: one whose certificates can be inserted one by one.
func Open(d api.Dag) (*Stock, api.Errno) {
	s := &Stock{}
	for _, c := range d.Certs {
		if s.Insert(c) != api.OK {
			return nil, api.ErrState
		}
	}
	return s, api.OK
}

// Takes: can a certificate be inserted?
func (s *Stock) Takes(c api.Cert) api.Errno {
	if e := wire.CheckCert(c); e != api.OK {
		return e
	}
	if s.Has(c.Header.Author, c.Header.Round) {
		return api.ErrTwice
	}
	missed, e := s.Missing(c.Header)
	switch {
	case e != api.OK:
		return e
	case len(missed) > 0:
		return api.ErrNone
	case len(s.certs) >= api.MaxCerts:
		return api.ErrFull
	}
	return api.OK
}

// Insert a certificate: it stands behind all.
func (s *Stock) Insert(c api.Cert) api.Errno {
	if e := s.Takes(c); e != api.OK {
		return e
	}
	digest, e := wire.HeaderDigest(c.Header)
	if e != api.OK {
		return e
	}
	s.certs = append(s.certs, clone(c))
	s.digests = append(s.digests, digest)
	return api.OK
}

// Certs in their order. The list is the stock's own, so that nobody else may
// change it.
func (s *Stock) Certs() []api.Cert { return s.certs }

// Find the certificate of a digest.
func (s *Stock) Find(k []byte) (api.Cert, api.Errno) {
	at := s.withDigest(k)
	if at < 0 {
		return api.Cert{}, api.ErrNone
	}
	return clone(s.certs[at]), api.OK
}

// Has it a certificate of that author and round?
func (s *Stock) Has(author, round int) bool { return s.of(author, round) >= 0 }

// Missing parents of a header that may be. All are looked at, as one of a wrong
// round is told ahead of one that is missing.
func (s *Stock) Missing(h api.Header) ([][]byte, api.Errno) {
	var missed [][]byte
	for _, parent := range h.Parents {
		at := s.withDigest(parent)
		if at < 0 {
			missed = append(missed, bytes.Clone(parent))
			continue
		}
		if s.certs[at].Header.Round != h.Round-1 {
			return nil, api.ErrOrder
		}
	}
	return missed, api.OK
}

// Round that comes next: the one behind the last one that has enough certificates.
func (s *Stock) Round() int {
	certified := map[int]int{}
	for _, c := range s.certs {
		certified[c.Header.Round]++
	}
	round := 1
	for certified[round] >= api.Quorum {
		round++
	}
	return round
}

// Digests of the certificates of a round, by their authors.
func (s *Stock) Digests(round int) [][]byte {
	var l [][]byte
	for author := range api.Nodes {
		if at := s.of(author, round); at >= 0 {
			l = append(l, bytes.Clone(s.digests[at]))
		}
	}
	return l
}

// of: the place of the certificate of an author and a round; below 0: there is none.
func (s *Stock) of(author, round int) int {
	same := func(c api.Cert) bool { return c.Header.Author == author && c.Header.Round == round }
	return slices.IndexFunc(s.certs, same)
}

// withDigest: the place of the certificate of a digest; below 0: there is none.
func (s *Stock) withDigest(k []byte) int {
	same := func(digest []byte) bool { return bytes.Equal(digest, k) }
	return slices.IndexFunc(s.digests, same)
}

// clone: a stock shares no memory with what it is handed, or with what it tells.
func clone(c api.Cert) api.Cert {
	c.Header.Batches = cloneDigests(c.Header.Batches)
	c.Header.Parents = cloneDigests(c.Header.Parents)
	c.Voters = slices.Clone(c.Voters)
	return c
}

func cloneDigests(l [][]byte) [][]byte {
	var cloned [][]byte
	for _, k := range l {
		cloned = append(cloned, bytes.Clone(k))
	}
	return cloned
}
