package wal

import (
	"counterpane/api"
	"counterpane/opcode"
)

// The record of an entry has its number, its client, its Seq, and behind them its batch, whose bytes are always few
// enough for a frame. By the number an entry is told that a cut within Fold left in the log, though the base has it.
const (
	numberSize = 8
	clientAt   = numberSize
	seqAt      = clientAt + 1
	opsAt      = seqAt + numberSize
)

// newRecord is the record of e; none, and false: it may not be.
func newRecord(number int64, e api.Entry) ([]byte, bool) {
	if !mayBe(e) {
		return nil, false
	}
	ops, err := opcode.Encode(e.Ops...)
	if err != api.OK {
		return nil, false
	}
	r := appendNumber(nil, number)
	r = append(r, byte(e.Client))
	r = appendNumber(r, e.Seq)
	return append(r, ops...), true
}

// readRecord is the entry of which r is the record, and its number; false: r is the record of none.
func readRecord(r []byte) (int64, api.Entry, bool) {
	if len(r) < opsAt {
		return 0, api.Entry{}, false
	}
	ops, err := opcode.Decode(r[opsAt:])
	number, e := readNumber(r), api.Entry{Client: int(r[clientAt]), Seq: readNumber(r[seqAt:]), Ops: ops}
	if err != api.OK || number < 1 || !mayBe(e) {
		return 0, api.Entry{}, false
	}
	return number, e, true
}

// mayBe leaves the batch to opcode.
func mayBe(e api.Entry) bool {
	return 0 <= e.Client && e.Client < api.MaxClient && 1 <= e.Seq && e.Seq <= api.MaxSeq
}

// appendNumber puts a number's bytes, the lowest first, behind b.
func appendNumber(b []byte, n int64) []byte {
	for i := range numberSize {
		b = append(b, byte(n>>(8*i)))
	}
	return b
}

// readNumber is the number whose bytes b begins with; any eight are those of one.
func readNumber(b []byte) int64 {
	n := int64(0)
	for i := range numberSize {
		n |= int64(b[i]) << (8 * i)
	}
	return n
}
