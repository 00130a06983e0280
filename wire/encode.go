package wire

import "sheaves/api"

// Encode a message.
func Encode(m api.Message) ([]byte, api.Errno) {
	if e := Check(m); e != api.OK {
		return nil, e
	}
	b := []byte{byte(m.Kind), byte(m.From), byte(m.To)}
	switch m.Kind {
	case api.Bundle:
		b = appendBatch(b, m.Batch)
	case api.Offer:
		b = appendHeader(b, m.Header)
	case api.Vote:
		b = appendSlot(b, m.Slot)
	case api.Proof:
		b = appendCert(b, m.Cert)
	case api.Want:
		b = appendRound(b, m.Round)
	}
	return b, api.OK
}

// What is appended below was checked ahead, so that each count and each length
// is at most 255 and stands in one byte.

func appendBatch(to []byte, b api.Batch) []byte {
	to = append(to, byte(b.Author))
	to = appendRound(to, b.Number)
	to = append(to, byte(len(b.Txs)))
	for _, tx := range b.Txs {
		to = append(to, byte(len(tx)))
		to = append(to, tx...)
	}
	return to
}

func appendHeader(to []byte, h api.Header) []byte {
	to = append(to, byte(h.Author))
	to = appendRound(to, h.Round)
	to = appendDigests(to, h.Batches)
	return appendDigests(to, h.Parents)
}

func appendCert(to []byte, c api.Cert) []byte {
	to = appendHeader(to, c.Header)
	to = append(to, byte(len(c.Voters)))
	for _, v := range c.Voters {
		to = append(to, byte(v))
	}
	return to
}

func appendSlot(to []byte, s api.Slot) []byte {
	to = append(to, byte(s.Author))
	to = appendRound(to, s.Round)
	return append(to, s.Digest...)
}

func appendDigests(to []byte, l [][]byte) []byte {
	to = append(to, byte(len(l)))
	for _, d := range l {
		to = append(to, d...)
	}
	return to
}

// appendRound writes a round, or a number of a batch.
func appendRound(to []byte, n int) []byte {
	return append(to, byte(n>>16), byte(n>>8), byte(n))
}
