// Package blake: digests of 32 bytes.
package blake

import (
	"math/bits"

	"sheaves/api"
)

const (
	blockSize  = 64
	digestSize = 32

	// shape goes into the first word: a digest of 32 bytes, no key, one leaf.
	shape = 0x01010020
)

// A state stands between blocks, a mixture within one.
type (
	state   [8]uint32
	mixture [16]uint32
)

var firstWords = [8]uint32{
	0x6a09e667, 0xbb67ae85, 0x3c6ef372, 0xa54ff53a,
	0x510e527f, 0x9b05688c, 0x1f83d9ab, 0x5be0cd19,
}

var orders = [10][16]uint8{
	{0x0, 0x1, 0x2, 0x3, 0x4, 0x5, 0x6, 0x7, 0x8, 0x9, 0xa, 0xb, 0xc, 0xd, 0xe, 0xf},
	{0xe, 0xa, 0x4, 0x8, 0x9, 0xf, 0xd, 0x6, 0x1, 0xc, 0x0, 0x2, 0xb, 0x7, 0x5, 0x3},
	{0xb, 0x8, 0xc, 0x0, 0x5, 0x2, 0xf, 0xd, 0xa, 0xe, 0x3, 0x6, 0x7, 0x1, 0x9, 0x4},
	{0x7, 0x9, 0x3, 0x1, 0xd, 0xc, 0xb, 0xe, 0x2, 0x6, 0x5, 0xa, 0x4, 0x0, 0xf, 0x8},
	{0x9, 0x0, 0x5, 0x7, 0x2, 0x4, 0xa, 0xf, 0xe, 0x1, 0xb, 0xc, 0x6, 0x8, 0x3, 0xd},
	{0x2, 0xc, 0x6, 0xa, 0x0, 0xb, 0x8, 0x3, 0x4, 0xd, 0x7, 0x5, 0xf, 0xe, 0x1, 0x9},
	{0xc, 0x5, 0x1, 0xf, 0xe, 0xd, 0x4, 0xa, 0x0, 0x7, 0x6, 0x3, 0x9, 0x2, 0x8, 0xb},
	{0xd, 0xb, 0x7, 0xe, 0xc, 0x1, 0x3, 0x9, 0x5, 0x0, 0xf, 0x4, 0x8, 0x6, 0x2, 0xa},
	{0x6, 0xf, 0xe, 0x9, 0xb, 0x3, 0x0, 0x8, 0xc, 0x2, 0xd, 0x7, 0x1, 0x4, 0xa, 0x5},
	{0xa, 0x2, 0x8, 0x4, 0x7, 0x6, 0x1, 0x5, 0xf, 0xb, 0x9, 0xe, 0x3, 0xc, 0xd, 0x0},
}

var lanes = [8][4]uint8{
	{0, 4, 8, 12},
	{1, 5, 9, 13},
	{2, 6, 10, 14},
	{3, 7, 11, 15},
	{0, 5, 10, 15},
	{1, 6, 11, 12},
	{2, 7, 8, 13},
	{3, 4, 9, 14},
}

// Sum of bytes: their digest.
func Sum(b []byte) ([]byte, api.Errno) {
	if len(b) > api.MaxData {
		return nil, api.ErrSize
	}
	s := begin()
	done := 0
	// A whole block at the end is the last one: no empty block follows it.
	for len(b)-done > blockSize {
		next := done + blockSize
		s = take(s, b[done:next], next, false)
		done = next
	}
	return digest(take(s, b[done:], len(b), true)), api.OK
}

// Tagged digest of parts, each behind its length.
func Tagged(tag byte, parts ...[]byte) ([]byte, api.Errno) {
	if !fits(parts) {
		return nil, api.ErrSize
	}
	b := []byte{tag}
	for _, p := range parts {
		b = append(b, byte(len(p)>>8), byte(len(p)))
		b = append(b, p...)
	}
	return Sum(b)
}

// fits tells whether a tag and parts are at most MaxData bytes: asked ahead of
// writing them, so that no more than that is ever written.
func fits(parts [][]byte) bool {
	room := api.MaxData - 1
	for _, p := range parts {
		room -= 2
		if len(p) > room {
			return false
		}
		room -= len(p)
	}
	return true
}

func begin() state {
	var s state
	for i := range s {
		s[i] = firstWords[i]
	}
	s[0] ^= shape
	return s
}

// take a block; taken: how many bytes there were with it, of all blocks.
func take(s state, block []byte, taken int, last bool) state {
	v := spread(s, taken, last)
	m := words(block)
	for round := range orders {
		for i := range lanes {
			x, y := orders[round][2*i], orders[round][2*i+1]
			mix(&v, lanes[i], m[x], m[y])
		}
	}
	for i := range s {
		s[i] ^= v[i] ^ v[i+8]
	}
	return s
}

func spread(s state, taken int, last bool) mixture {
	var v mixture
	n := copy(v[:], s[:])
	for i := range s {
		v[n+i] = firstWords[i]
	}
	v[12] ^= uint32(taken)
	if last {
		v[14] = ^v[14]
	}
	return v
}

// words of a block of at most 64 bytes.
func words(block []byte) [16]uint32 {
	var m [16]uint32
	for i, x := range block {
		m[i/4] |= uint32(x) << (8 * (i % 4))
	}
	return m
}

func mix(v *mixture, lane [4]uint8, x, y uint32) {
	a, b, c, d := v[lane[0]], v[lane[1]], v[lane[2]], v[lane[3]]
	a += b + x
	d = turn(d^a, 16)
	c += d
	b = turn(b^c, 12)
	a += b + y
	d = turn(d^a, 8)
	c += d
	b = turn(b^c, 7)
	v[lane[0]], v[lane[1]], v[lane[2]], v[lane[3]] = a, b, c, d
}

func turn(w uint32, n int) uint32 { return bits.RotateLeft32(w, -n) }

func digest(s state) []byte {
	b := make([]byte, 0, digestSize)
	for _, w := range s {
		b = append(b, byte(w), byte(w>>8), byte(w>>16), byte(w>>24))
	}
	return b
}
