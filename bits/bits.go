// Package bits is bits that are counted and found: see DOC.md, chapter 1.
package bits

import (
	mathbits "math/bits"
	"sort"

	"trivium/api"
)

const wordSize = 64

// Vec is bits.
type Vec struct {
	size  int
	words []uint64
	// ahead[i] is how many ones stand ahead of words[i]; its last number is that of all.
	ahead []int
}

// New is one of bits.
func New(l []bool) *Vec {
	if len(l) > api.MaxBits {
		return nil
	}
	v := &Vec{size: len(l), words: make([]uint64, (len(l)+wordSize-1)/wordSize)}
	for i, one := range l {
		if one {
			v.words[i/wordSize] |= 1 << (i % wordSize)
		}
	}
	v.ahead = make([]int, len(v.words)+1)
	for i, word := range v.words {
		v.ahead[i+1] = v.ahead[i] + mathbits.OnesCount64(word)
	}
	return v
}

// Len is how many there are.
func (v *Vec) Len() int {
	if v == nil {
		return 0
	}
	return v.size
}

// Get is a bit.
func (v *Vec) Get(i int) bool {
	if i < 0 || i >= v.Len() {
		return false
	}
	return v.words[i/wordSize]>>(i%wordSize)&1 == 1
}

// Rank is how many ones are ahead.
func (v *Vec) Rank(i int) int {
	i = min(i, v.Len())
	if i <= 0 {
		return 0
	}
	word := i / wordSize
	if word == len(v.words) {
		return v.ahead[word]
	}
	low := v.words[word] & (1<<(i%wordSize) - 1)
	return v.ahead[word] + mathbits.OnesCount64(low)
}

// Select is the place of a one.
func (v *Vec) Select(k int) int {
	if k < 0 || k >= v.Rank(v.Len()) {
		return -1
	}
	word := sort.Search(len(v.words), func(i int) bool { return v.ahead[i+1] > k })
	rest := v.words[word]
	for range k - v.ahead[word] {
		rest &= rest - 1
	}
	return word*wordSize + mathbits.TrailingZeros64(rest)
}

// Next is the first one from a place on.
func (v *Vec) Next(i int) int {
	return v.Select(v.Rank(i))
}
