// Package pack holds how the parts that records and messages share stand as bytes: see DOC.md, chapter 11.
package pack

// How many bytes the numbers have.
const (
	kindBytes  = 1
	countBytes = 1
	flagBytes  = 1
	idBytes    = 2
	coordBytes = 4
	epochBytes = 2
	placeBytes = 4
	nodeBytes  = 1
	seqBytes   = 2
	baseBytes  = 4
)

// noBase is the least base: bytes have no sign, so a base stands as what it is above this one.
const noBase = -1
