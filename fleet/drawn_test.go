package fleet_test

import (
	"math/rand"
	"slices"
	"strconv"
	"testing"

	"sheaves/api"
	"sheaves/dag"
	"sheaves/fleet"
	"sheaves/pool"
)

// A drawer draws a script. It plays it on a model beside, so that what the bad
// node forges is near to what the others have.
type drawer struct {
	*rand.Rand
	model   *model
	acts    []api.Act
	headers []api.Header // that were offered, or forged
}

func (d *drawer) do(l ...api.Act) {
	for _, a := range l {
		d.model.act(a)
		d.acts = append(d.acts, a)
	}
	for _, n := range d.model.nodes {
		d.headers = append(d.headers, n.own...)
	}
}

func (d *drawer) node() *modelNode { return d.model.nodes[d.Intn(api.Nodes)] }

func (d *drawer) tx() string {
	switch d.Intn(12) {
	case 0:
		return ""
	case 1:
		return "a transaction too long"
	}
	return strconv.Itoa(d.Intn(30))
}

func (d *drawer) header() api.Header {
	n := d.node()
	if len(d.headers) > 0 && d.Intn(2) == 0 {
		return d.headers[d.Intn(len(d.headers))]
	}
	r, _ := dag.Round(n.dag)
	h := api.Header{Author: d.model.rogue, Round: max(1, r-d.Intn(2))}
	for _, b := range n.batches {
		if len(h.Batches) < api.MaxBatches && d.Intn(3) == 0 {
			h.Batches = append(h.Batches, batchDigest(b))
		}
	}
	if len(h.Batches) == 0 && d.Intn(4) == 0 {
		h.Batches = [][]byte{make([]byte, 32)}
	}
	if h.Round > 1 {
		h.Parents, _ = dag.Digests(n.dag, h.Round-1)
		if d.Intn(8) == 0 {
			h.Parents[0] = make([]byte, 32)
		}
	}
	if d.Intn(8) == 0 {
		h.Author = d.Intn(api.Nodes)
	}
	d.headers = append(d.headers, h)
	return h
}

func (d *drawer) batch() api.Batch {
	n := d.node()
	if _, b, e := pool.Seal(n.pool, n.me); e == api.OK && d.Intn(2) == 0 {
		return b
	}
	if len(n.batches) > 0 && d.Intn(2) == 0 {
		return n.batches[d.Intn(len(n.batches))]
	}
	return batch(d.Intn(api.Nodes), []int{1, 2, 3, 9, api.MaxRound}[d.Intn(5)], "forged")
}

func (d *drawer) message() api.Message {
	from := d.Intn(api.Nodes)
	switch d.Intn(8) {
	case 0, 1:
		return bundle(d.batch())
	case 2, 3, 4:
		return offer(d.header())
	case 5:
		return voteFrom(from, d.header())
	case 6:
		voters := d.Perm(api.Nodes)[:3+d.Intn(2)]
		slices.Sort(voters)
		return proof(cert(d.header(), voters...))
	}
	return want(from, 1+d.Intn(4))
}

// badRound: the bad node offers a header, or two, and proves what was voted for.
func (d *drawer) badRound() {
	first, second := d.header(), d.header()
	for n := range api.Nodes {
		h := first
		if d.Intn(4) == 0 {
			h = second
		}
		d.do(forge(n, offer(h)), sync(n))
	}
	for _, h := range []api.Header{first, second} {
		var voters []int
		for n := range api.Nodes {
			if n == d.model.rogue || has(d.model.signs, sign(n, h)) {
				voters = append(voters, n)
			}
		}
		if len(voters) >= api.Quorum {
			d.do(forge(d.Intn(api.Nodes), proof(cert(h, voters...))), forge(d.Intn(api.Nodes), proof(cert(h, voters...))))
		}
	}
}

// step draws some acts; the more calm, the more often all is well.
func (d *drawer) step(calm int) {
	n := d.Intn(api.Nodes)
	if d.Intn(10) < calm {
		d.do(turn(0, 1, 2, 3)...)
		return
	}
	switch d.Intn(14) {
	case 0, 1:
		d.do(submit(n, d.tx()))
	case 2, 3:
		d.do(work(n))
	case 4:
		d.do(sync(n))
	case 5, 6, 7:
		pick := []int{0, d.Intn(60), d.Intn(api.MaxTape + 1)}[d.Intn(3)]
		d.do([]api.Act{take(pick), take(pick), lose(pick), copyOf(pick)}[d.Intn(4)])
	case 8:
		d.do(crash(n, []int{0, d.Intn(300), api.MaxTape}[d.Intn(3)]))
	case 9:
		d.do(start(n))
	case 10:
		d.do(flow())
	default:
		if d.model.rogue == nobody {
			d.do(turn(n)...)
		} else if d.Intn(3) == 0 {
			d.badRound()
		} else {
			d.do(forge(n, d.message()))
		}
	}
}

func drawn(seed int64) *drawer {
	r := rand.New(rand.NewSource(seed))
	d := &drawer{Rand: r, model: newModel(r.Intn(api.Nodes+1) - 1)}
	calm := r.Intn(8)
	for range 30 + r.Intn(60) {
		d.step(calm)
	}
	return d
}

// P10.1 to P10.12, held against a model.
func TestDrawnScripts(t *testing.T) {
	certs, batches, bad, crashes := 0, 0, 0, 0
	for seed := range int64(250) {
		d := drawn(seed)
		got, e := fleet.Run(d.model.rogue, d.acts)
		want := d.model.outcome()
		if e != api.OK || show(got) != show(want) {
			t.Fatalf("seed %d: %v %d, want %v", seed, got, e, want)
		}
		for _, v := range got.Nodes {
			certs += len(v.Certs)
			batches += len(v.Batches)
			for _, c := range v.Certs {
				if c.Header.Author == d.model.rogue {
					bad++
				}
			}
		}
		for _, a := range d.acts {
			if a.Kind == api.Crash {
				crashes++
			}
		}
	}
	t.Logf("%d certificates, %d of the bad node, %d batches, %d crashes", certs, bad, batches, crashes)
	if certs < 4000 || batches < 1000 || bad < 100 || crashes < 500 {
		t.Errorf("too little happened: %d certificates, %d of the bad node, %d batches, %d crashes", certs, bad, batches, crashes)
	}
}

// What comes of it: of each author and round one header at most is certified,
// anywhere, for ever, whatever the bad node forges.
func TestOneHeaderIsCertified(t *testing.T) {
	for seed := range int64(60) {
		d := drawn(1000 + seed)
		certified := map[[2]int]string{}
		for part := range 10 {
			for _, v := range run(t, d.model.rogue, d.acts[:len(d.acts)*(part+1)/10]).Nodes {
				for _, c := range v.Certs {
					at := [2]int{c.Header.Author, c.Header.Round}
					digest := string(headerDigest(c.Header))
					if old, ok := certified[at]; ok && old != digest {
						t.Fatalf("seed %d: two headers of %v", 1000+seed, at)
					}
					certified[at] = digest
				}
			}
		}
	}
}

// What holds everywhere: the same script, the same outcome.
func TestAgain(t *testing.T) {
	d := drawn(7)
	first := run(t, d.model.rogue, d.acts)
	for range 3 {
		same(t, "again", run(t, d.model.rogue, d.acts), first)
	}
}
