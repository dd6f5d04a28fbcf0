package frame

import (
	"bytes"
	"encoding/binary"
	"fmt"
	"hash/crc32"
	"slices"
	"testing"
)

// read is what a file begins with, another way: a head is taken, then held against what the standard library makes of it.
func read(file []byte) [][]byte {
	var out [][]byte
	for left := bytes.NewBuffer(file); ; {
		lead := left.Next(head)
		if len(lead) < head {
			return out
		}
		n := binary.LittleEndian.Uint32(lead)
		if n > most || int(n) > left.Len() {
			return out
		}
		b := left.Next(int(n))
		sum := crc32.NewIEEE()
		sum.Write(lead[:4])
		sum.Write(b)
		if sum.Sum32() != binary.LittleEndian.Uint32(lead[4:]) {
			return out
		}
		out = append(out, b)
	}
}

func TestNilAndEmpty(t *testing.T) {
	none := Frame(nil)
	for what, b := range map[string][]byte{"empty": {}, "empty with spare room": make([]byte, 0, 9), "the front of some": []byte("abc")[:0]} {
		if got := Frame(b); !bytes.Equal(got, none) || len(got) != head {
			t.Errorf("P0.4: Frame of a list that is %s: % x, of nil % x", what, got, none)
		}
		checkScan(t, what, b)
	}
	checkScan(t, "nil", nil)
	checkScan(t, "an empty record", none, nil)
	checkScan(t, "three empty records", slices.Concat(none, none, none), nil, nil, nil)
}

// All bytes of up to two, and such as go on for long.
func TestAnyBytes(t *testing.T) {
	for a := range 256 {
		checkScan(t, "one byte", []byte{byte(a)})
		for b := range 256 {
			checkScan(t, "two bytes", []byte{byte(a), byte(b)})
		}
		for n := range 40 {
			checkScan(t, "one byte again and again", bytes.Repeat([]byte{byte(a)}, n))
		}
		checkScan(t, "one byte without end", bytes.Repeat([]byte{byte(a)}, 1<<14))
	}
}

// dice is a row of numbers that are the same in each run.
type dice uint64

func (d *dice) roll(n int) int {
	*d = *d*6364136223846793005 + 1442695040888963407
	return int(uint64(*d)>>33) % n
}

func (d *dice) bytes(n int) []byte {
	out := make([]byte, n)
	for i := range out {
		out[i] = byte(d.roll(256))
	}
	return out
}

// record is one of many lengths, the small ones most often.
func (d *dice) record() []byte {
	return d.bytes(d.roll(1 + d.roll(1+d.roll(600))))
}

func TestBytesByDice(t *testing.T) {
	d := dice(19)
	for range 20_000 {
		checkScan(t, "bytes by dice", d.bytes(d.roll(100)))
		// A length that may be, so that the sum alone tells it.
		b := d.bytes(head + d.roll(40))
		binary.LittleEndian.PutUint32(b, uint32(len(b)-head))
		checkScan(t, "bytes by dice of the right length", b)
	}
}

func TestRecordsByDice(t *testing.T) {
	d := dice(91)
	for range 3000 {
		var file []byte
		var records [][]byte
		for range d.roll(8) {
			b := d.record()
			if got := Frame(b); !bytes.Equal(got, framed(b)) {
				t.Fatalf("P19.1: Frame of % x is % x", b, got)
			}
			file, records = append(file, Frame(b)...), append(records, b)
		}
		checkScan(t, "records by dice", file, records...)
		checkScan(t, "with bytes behind them", append(file, d.bytes(d.roll(30))...), records...)
	}
}

// Files of whole pieces and spoilt ones, in any order.
func TestPiecesByDice(t *testing.T) {
	d := dice(191)
	found, spoilt := 0, 0
	for range 20_000 {
		var file []byte
		for range 1 + d.roll(6) {
			piece := framed(d.record())
			switch d.roll(12) {
			case 0:
				piece = piece[:d.roll(len(piece))]
			case 1:
				piece[d.roll(len(piece))] ^= 1 << d.roll(8)
			case 2:
				piece = d.bytes(d.roll(20))
			case 3:
				i, j := d.roll(len(piece)), d.roll(len(piece))
				piece[i], piece[j] = piece[j], piece[i]
			case 4:
				binary.LittleEndian.PutUint32(piece, uint32(d.roll(1<<d.roll(31))))
			}
			file = append(file, piece...)
		}
		want := read(file)
		checkScan(t, fmt.Sprintf("% x", file), file, want...)
		found += len(want)
		if len(framed(want...)) < len(file) {
			spoilt++
		}
	}
	if found < 20_000 || spoilt < 5000 {
		t.Errorf("the test's own files have %d records, and %d of them are spoilt", found, spoilt)
	}
}

// roomy is b with spare room behind it, filled with a mark.
func roomy(b []byte) []byte {
	out := append(slices.Clone(b), bytes.Repeat([]byte{0xa5}, 16)...)
	return out[:len(b)]
}

func TestArgumentsStay(t *testing.T) {
	file := framed(some()...)
	for _, b := range append(some(), file, file[:len(file)-1], file[1:], filled(5000)) {
		given, kept := roomy(b), roomy(b)
		Frame(given)
		Scan(given)
		if !bytes.Equal(given[:len(given)+16], kept[:len(b)+16]) {
			t.Errorf("P0.3: % x is changed, or the room behind it", b)
		}
	}
}

func TestArgumentsChangedAfterwards(t *testing.T) {
	for _, b := range some() {
		given := roomy(b)
		got := Frame(given)
		wipe(given)
		if !bytes.Equal(got, framed(b)) {
			t.Errorf("P0.3: Frame of % x keeps it", b)
		}
	}
	file := roomy(framed(some()...))
	got, n := Scan(file)
	wipe(file)
	if n != len(file) || !slices.EqualFunc(got, some(), bytes.Equal) {
		t.Errorf("P0.3: Scan keeps its file: % x", got)
	}
}

// wipe writes into all of b, its spare room too.
func wipe(b []byte) {
	for i := range b[:cap(b)] {
		b[:cap(b)][i] = 0x3c
	}
}

func TestAnswersChanged(t *testing.T) {
	for _, b := range some() {
		given := roomy(b)
		first, second := Frame(given), Frame(given)
		wipe(first)
		if !bytes.Equal(given, b) || !bytes.Equal(second, framed(b)) || !bytes.Equal(Frame(b), framed(b)) {
			t.Errorf("P0.3: what Frame of % x answers is kept", b)
		}
	}
	file := roomy(framed(some()...))
	second, _ := Scan(file)
	for i := range some() {
		// Each record is written into, and all others are looked at.
		got, _ := Scan(file)
		wipe(got[i])
		for j, b := range some() {
			if j != i && !bytes.Equal(got[j], b) {
				t.Errorf("P0.3: record %d is in the memory of record %d", j, i)
			}
		}
		_ = append(got[i], 1, 2, 3)
		got = append(got[:0], nil, nil, nil)
		clear(got[:cap(got)])
	}
	if !slices.EqualFunc(second, some(), bytes.Equal) {
		t.Errorf("P0.3: two answers of Scan have something in common")
	}
	if !bytes.Equal(file[:len(file)+16], roomy(framed(some()...))[:len(file)+16]) {
		t.Errorf("P0.3: an answer of Scan is in its file's memory")
	}
	checkScan(t, "behind all that", file, some()...)
}

func TestSameAnswerAgain(t *testing.T) {
	file := framed(some()...)
	for _, b := range some() {
		for _, between := range [][]byte{nil, {0}, file, file[:20], filled(3000)} {
			Frame(between)
			Scan(between)
			if got := Frame(b); !bytes.Equal(got, framed(b)) {
				t.Errorf("P0.5: Frame of % x is % x", b, got)
			}
			checkScan(t, "again", file, some()...)
		}
	}
}
