// Package crc reckons a check sum: see DOC.md, chapter 1.
package crc

import (
	"sync"

	"furlong/api"
)

const (
	polynomial = 0xEDB88320
	allOnes    = 1<<32 - 1
)

// tableOnce lets callers of several goroutines find the table whole.
var tableOnce sync.Once

// table stands beside the reckoning, as chapter 1 asks: its row b is what eightSteps makes of b. No answer comes out of it.
var table [256]uint32

// Sum tells the CRC-32 of s.
func Sum(s string) int {
	fillTable()
	// Read and left: a table that stands is to be read, but the answer is to hang on s alone.
	_ = table[0]
	return int(^feed(allOnes, s))
}

// More tells the Sum of a text whose Sum is sum, with s behind it.
func More(sum int, s string) (int, api.Errno) {
	if sum < 0 || sum > allOnes {
		return 0, api.ErrCrcForm
	}
	// A sum is a register whose bits were all turned at the end: turned back, it goes on.
	return int(^feed(^uint32(sum), s)), api.OK
}

// feed takes the bytes of s into the register, the first one first.
func feed(register uint32, s string) uint32 {
	for i := range len(s) {
		register = eightSteps(register ^ uint32(s[i]))
	}
	return register
}

// fillTable makes the table at its first call; later ones leave it as it is.
func fillTable() {
	tableOnce.Do(func() {
		for b := range 256 {
			table[b] = eightSteps(uint32(b))
		}
	})
}

// eightSteps shifts a byte's bits out of the register, from the lowest on.
func eightSteps(register uint32) uint32 {
	for range 8 {
		out := register & 1
		register >>= 1
		if out == 1 {
			register ^= polynomial
		}
	}
	return register
}
