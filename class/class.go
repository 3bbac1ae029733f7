// Package class is layer 1: sets of bytes. See shared/doc/01-class.md.
package class

import "math/bits"

// Set is a set of bytes: it has c, if W[c/64] has the binary digit 2^(c modulo 64). Two sets are the same just if they are ==.
type Set struct{ W [4]uint64 }

// One is the set of c alone.
func One(c byte) Set { return Set{}.with(c) }

// Range is the set of all bytes from a to b; it has none, if b is below a.
func Range(a, b byte) Set {
	var s Set
	// An int goes on beyond 255, where a byte would come round to 0 and never end.
	for c := int(a); c <= int(b); c++ {
		s = s.with(byte(c))
	}
	return s
}

// Of is the set of the bytes of s; bytes, not runes, also where they make up UTF-8.
func Of(s string) Set {
	var set Set
	for i := range len(s) {
		set = set.with(s[i])
	}
	return set
}

// All is the set of all 256 bytes.
func All() Set { return Set{}.Not() }

// Has tells whether the set has c.
func (s Set) Has(c byte) bool { return s.W[c/64]>>(c%64)&1 == 1 }

// Len is how many bytes the set has.
func (s Set) Len() int {
	n := 0
	for _, w := range s.W {
		n += bits.OnesCount64(w)
	}
	return n
}

// Min is the least byte of the set, and yes; 0 and no, if it has none.
func (s Set) Min() (byte, bool) {
	if s.none() {
		return 0, false
	}
	i := 0
	for s.W[i] == 0 {
		i++
	}
	return byte(64*i + bits.TrailingZeros64(s.W[i])), true
}

// Ranges are the set's runs of bytes that follow one another, each as its first and its last byte, rising.
func (s Set) Ranges() [][2]byte {
	var runs [][2]byte
	s.eachRun(func(first, last byte) {
		runs = append(runs, [2]byte{first, last})
	})
	return runs
}

// Or is the set of the bytes that s or t has.
func (s Set) Or(t Set) Set {
	for i := range s.W {
		s.W[i] |= t.W[i]
	}
	return s
}

// And is the set of the bytes that both s and t have.
func (s Set) And(t Set) Set {
	for i := range s.W {
		s.W[i] &= t.W[i]
	}
	return s
}

// Not is the set of the bytes that s has not.
func (s Set) Not() Set {
	for i := range s.W {
		s.W[i] = ^s.W[i]
	}
	return s
}

// Fold is the set with, of each letter a to z and A to Z that it has, the letter of the other case too.
func (s Set) Fold() Set {
	folded := s
	for i := range byte(26) {
		pair := One('a' + i).Or(One('A' + i))
		if !s.And(pair).none() {
			folded = folded.Or(pair)
		}
	}
	return folded
}

// with is the set with c more; s is a copy, so the caller's own stays as it was.
func (s Set) with(c byte) Set {
	s.W[c/64] |= 1 << (c % 64)
	return s
}

func (s Set) none() bool { return s.W == [4]uint64{} }

func (s Set) eachRun(tell func(first, last byte)) {
	for c := 0; c < 256; c++ {
		if !s.Has(byte(c)) {
			continue
		}
		first := c
		for c < 255 && s.Has(byte(c+1)) {
			c++
		}
		tell(byte(first), byte(c))
	}
}
