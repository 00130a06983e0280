package stock_test

import (
	"math/rand"
	"reflect"
	"testing"

	"sheaves/api"
	"sheaves/dag"
	"sheaves/stock"
	"sheaves/wire"
)

func header(t *testing.T, author, round int, parents ...api.Header) api.Header {
	t.Helper()
	h := api.Header{Author: author, Round: round}
	for _, p := range parents {
		h.Parents = append(h.Parents, digest(t, p))
	}
	return h
}

func digest(t *testing.T, h api.Header) []byte {
	t.Helper()
	k, e := wire.HeaderDigest(h)
	if e != api.OK {
		t.Fatalf("no header: %d", e)
	}
	return k
}

func cert(h api.Header) api.Cert { return api.Cert{Header: h, Voters: []int{0, 1, 2}} }

// grown: certificates of so many rounds, some of three authors, some of four,
// each round's as they were drawn.
func grown(t *testing.T, seed int64, rounds int) []api.Cert {
	t.Helper()
	r := rand.New(rand.NewSource(seed))
	var l []api.Cert
	var ahead []api.Header
	for round := 1; round <= rounds; round++ {
		var headers []api.Header
		for _, author := range r.Perm(api.Nodes)[:3+r.Intn(2)] {
			headers = append(headers, header(t, author, round, ahead...))
			l = append(l, cert(headers[len(headers)-1]))
		}
		ahead = headers
	}
	return l
}

// A stock that grows tells at each step what package dag tells of a dag.
func TestAsTheDag(t *testing.T) {
	for seed := range int64(5) {
		s := &stock.Stock{}
		d := api.Dag{}
		for _, c := range grown(t, seed, 5) {
			h := c.Header
			if s.Has(h.Author, h.Round) || s.Takes(c) != api.OK || s.Insert(c) != api.OK || !s.Has(h.Author, h.Round) {
				t.Fatalf("%v does not go in", h)
			}
			d.Certs = append(d.Certs, c)
			if !reflect.DeepEqual(s.Certs(), d.Certs) {
				t.Fatalf("certificates %v, want %v", s.Certs(), d.Certs)
			}
			round, _ := dag.Round(d)
			if s.Round() != round {
				t.Errorf("round %d, want %d", s.Round(), round)
			}
			for r := range 7 {
				digests, _ := dag.Digests(d, r)
				if len(digests)+len(s.Digests(r)) > 0 && !reflect.DeepEqual(s.Digests(r), digests) {
					t.Errorf("digests of round %d: %x, want %x", r, s.Digests(r), digests)
				}
			}
			if found, e := s.Find(digest(t, h)); e != api.OK || !reflect.DeepEqual(found, c) {
				t.Errorf("found %v %d, want %v", found, e, c)
			}
		}
	}
}

// What is refused leaves the stock as it was.
func TestRefused(t *testing.T) {
	a, b, c := header(t, 0, 1), header(t, 1, 1), header(t, 2, 1)
	s, e := stock.Open(api.Dag{Certs: []api.Cert{cert(a), cert(b), cert(c)}})
	if e != api.OK {
		t.Fatalf("refused: %d", e)
	}
	second := header(t, 0, 1)
	second.Batches = [][]byte{make([]byte, 32)}
	for i, x := range []struct {
		cert api.Cert
		want api.Errno
	}{
		{api.Cert{}, api.ErrRange},
		{api.Cert{Header: header(t, 3, 1)}, api.ErrFew},
		{cert(a), api.ErrTwice},
		{cert(second), api.ErrTwice},
		{cert(header(t, 0, 3, a, b, c)), api.ErrOrder},
		{cert(header(t, 0, 2, a, b, header(t, 3, 1))), api.ErrNone},
		{cert(header(t, 0, 2, header(t, 3, 1), a, b, c)), api.ErrNone},
	} {
		takes, inserts := s.Takes(x.cert), s.Insert(x.cert)
		if takes != x.want || inserts != x.want {
			t.Errorf("case %d: %d and %d, want %d", i, takes, inserts, x.want)
		}
		if len(s.Certs()) != 3 || s.Round() != 2 {
			t.Errorf("case %d: %d certificates, round %d", i, len(s.Certs()), s.Round())
		}
		if _, e := stock.Open(api.Dag{Certs: append(s.Certs()[:3:3], x.cert)}); e != api.ErrState {
			t.Errorf("case %d, opened: %d", i, e)
		}
	}
	if _, e := s.Find(digest(t, second)); e != api.ErrNone {
		t.Errorf("found: %d", e)
	}
	missed, e := s.Missing(header(t, 0, 2, second, a, header(t, 3, 1), b))
	if want := [][]byte{digest(t, second), digest(t, header(t, 3, 1))}; e != api.OK || !reflect.DeepEqual(missed, want) {
		t.Errorf("missing %x %d, want %x", missed, e, want)
	}
}

func TestFull(t *testing.T) {
	var l []api.Cert
	var ahead []api.Header
	for round := 1; len(l) < api.MaxCerts; round++ {
		var headers []api.Header
		for author := range api.Nodes {
			headers = append(headers, header(t, author, round, ahead...))
			l = append(l, cert(headers[author]))
		}
		ahead = headers
	}
	s, e := stock.Open(api.Dag{Certs: l})
	if e != api.OK || len(s.Certs()) != api.MaxCerts || s.Round() != 101 {
		t.Fatalf("not opened: %d", e)
	}
	more := cert(header(t, 0, 101, ahead...))
	if e := s.Insert(more); e != api.ErrFull || len(s.Certs()) != api.MaxCerts {
		t.Errorf("one more: %d", e)
	}
	if _, e := stock.Open(api.Dag{Certs: append(l, more)}); e != api.ErrState {
		t.Errorf("one more, opened: %d", e)
	}
}

// What is handed in is not kept, and what is told is new.
func TestMemory(t *testing.T) {
	l := grown(t, 1, 3)
	s, e := stock.Open(api.Dag{Certs: l})
	if e != api.OK {
		t.Fatalf("refused: %d", e)
	}
	last := l[len(l)-1]
	k := digest(t, last.Header)
	found, _ := s.Find(k)
	digests := s.Digests(3)
	for _, parent := range append(last.Header.Parents, found.Header.Parents...) {
		clear(parent)
	}
	for _, d := range digests {
		clear(d)
	}
	last.Voters[0], found.Voters[0] = 9, 9
	if again, e := s.Find(k); e != api.OK || again.Voters[0] != 0 || !reflect.DeepEqual(digest(t, again.Header), k) {
		t.Errorf("found %v %d", again, e)
	}
}
