package wal

import (
	"slices"

	"counterpane/api"
	"counterpane/frame"
	"counterpane/sheet"
	"counterpane/snapshot"
)

// base is a workbook, the number of the last entry in it, and the last Seq of each client.
type base struct {
	book   *sheet.Book
	number int64
	last   []int64
}

func emptyBase() base {
	return base{book: sheet.New(), last: make([]int64, api.MaxClient)}
}

// newBase is a base in memory of its own, and its file; false: they may not be.
func newBase(b *sheet.Book, number int64, last []int64) (base, []byte, bool) {
	if b == nil || !mayBeLast(last) {
		return base{}, nil, false
	}
	body := frame.Frame(snapshot.Encode(b))
	if len(body) == 0 {
		return base{}, nil, false
	}
	head := appendNumber(nil, number)
	for _, seq := range last {
		head = appendNumber(head, seq)
	}
	return base{b, number, last}.copied(), append(frame.Frame(head), body...), true
}

// readBase is the base whose file this is, an empty one, if it is none's. The workbook has a record of its own, so that it
// may be as long as a frame's.
func readBase(file []byte) base {
	records, _ := frame.Scan(file)
	if len(records) < 2 {
		return emptyBase()
	}
	number, last, ok := readHead(records[0])
	if !ok {
		return emptyBase()
	}
	b, err := snapshot.Decode(records[1])
	if err != api.OK {
		return emptyBase()
	}
	return base{b, number, last}
}

// readHead is what stands ahead of the workbook; false: it is not such.
func readHead(head []byte) (int64, []int64, bool) {
	if len(head) != numberSize*(1+api.MaxClient) {
		return 0, nil, false
	}
	number := readNumber(head)
	var last []int64
	for rest := range slices.Chunk(head[numberSize:], numberSize) {
		last = append(last, readNumber(rest))
	}
	if number < 0 || !mayBeLast(last) {
		return 0, nil, false
	}
	return number, last, true
}

// mayBeLast takes 0, too, for a client that has none yet.
func mayBeLast(last []int64) bool {
	wrong := func(seq int64) bool { return seq < 0 || seq > api.MaxSeq }
	return len(last) == api.MaxClient && !slices.ContainsFunc(last, wrong)
}

func (b base) copied() base {
	return base{b.book.Copy(), b.number, slices.Clone(b.last)}
}
