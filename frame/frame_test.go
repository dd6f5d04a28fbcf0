package frame

import (
	"bytes"
	"encoding/binary"
	"encoding/hex"
	"fmt"
	"hash/crc32"
	"slices"
	"testing"

	"counterpane/api"
)

// The numbers of the chapter, written out so that a changed limit is told too.
const (
	most = 4_194_304
	head = 8
)

// headed is what stands ahead of b, of the length n, whether or not that is b's: by the standard library.
func headed(n uint32, b []byte) []byte {
	out := binary.LittleEndian.AppendUint32(nil, n)
	s := crc32.Update(crc32.ChecksumIEEE(out), crc32.IEEETable, b)
	return append(binary.LittleEndian.AppendUint32(out, s), b...)
}

// framed is all of them, one behind the other, by the standard library.
func framed(records ...[]byte) []byte {
	var out []byte
	for _, b := range records {
		out = append(out, headed(uint32(len(b)), b)...)
	}
	return out
}

// filled is n bytes of all kinds.
func filled(n int) []byte {
	out := make([]byte, n)
	for i := range out {
		out[i] = byte(i*7 + i>>8*3 + n)
	}
	return out
}

// checkScan has a file read, and holds it against the records that it begins with.
func checkScan(t *testing.T, what string, file []byte, want ...[]byte) {
	t.Helper()
	got, n := Scan(file)
	size := 0
	for _, b := range want {
		size += head + len(b)
	}
	if len(got) != len(want) || n != size {
		t.Fatalf("P19.1: %s: Scan gives %d records of %d bytes, want %d of %d", what, len(got), n, len(want), size)
	}
	for i, b := range want {
		if !bytes.Equal(got[i], b) {
			t.Fatalf("P19.1: %s: record %d is % x, want % x", what, i, got[i], b)
		}
	}
}

// Worked out elsewhere.
func TestFrameWrittenOut(t *testing.T) {
	for b, want := range map[string]string{
		"":                 "000000001cdf4421",
		"\x00":             "01000000adde42fb00",
		"a":                "01000000638ff7c161",
		"\xff":             "01000000203140d6ff",
		"bc":               "020000006f397a7f6263",
		"\x00\x00\x00\x00": "0400000093d168e100000000",
		"123456789":        "09000000e2611ca5313233343536373839",
	} {
		if got := hex.EncodeToString(Frame([]byte(b))); got != want {
			t.Errorf("P19.1: Frame(%q) is %s, want %s", b, got, want)
		}
		file, _ := hex.DecodeString(want)
		checkScan(t, fmt.Sprintf("%q", b), file, []byte(b))
	}
	for n, want := range map[int]string{
		255: "ff00000019b1a77d", 256: "00010000d520a785", 257: "01010000ccd12c1a", 0x010203: "03020100e426553e", most: "0000400017ff5f45",
	} {
		got := Frame(make([]byte, n))
		if len(got) != head+n || hex.EncodeToString(got[:head]) != want {
			t.Errorf("P19.1: Frame of %d noughts begins with % x, want %s", n, got[:min(len(got), head)], want)
		}
	}
}

// lengths are those near each other and near those at which one more byte of the length counts.
func lengths() []int {
	var out []int
	for n := range 1100 {
		out = append(out, n)
	}
	return append(out, 4095, 4096, 65535, 65536, 65537, 70_001, 0x010203, 1<<20, most/2, most-1, most)
}

func TestManyLengths(t *testing.T) {
	for _, n := range lengths() {
		b := filled(n)
		if got := Frame(b); !bytes.Equal(got, framed(b)) {
			t.Fatalf("P19.1: Frame of %d bytes begins with % x, want % x", n, got[:min(len(got), head)], framed(b)[:head])
		}
		checkScan(t, fmt.Sprint(n, " bytes"), Frame(b), b)
	}
}

// The sum of each byte alone, and of each bit at each place of some.
func TestSumOfEachBit(t *testing.T) {
	var lists [][]byte
	for n := range 256 {
		lists = append(lists, []byte{byte(n)}, []byte{byte(n), 0}, []byte{0, byte(n)}, bytes.Repeat([]byte{byte(n)}, 37))
	}
	for i := range 8 * 40 {
		b := make([]byte, 40)
		b[i/8] = 1 << (i % 8)
		lists = append(lists, b)
	}
	for _, b := range lists {
		if got := Frame(b); !bytes.Equal(got, framed(b)) {
			t.Fatalf("P19.1: Frame of % x is % x, want % x", b, got, framed(b))
		}
	}
}

func TestGreatestLength(t *testing.T) {
	if api.MaxFrame != most {
		t.Fatalf("MaxFrame is %d", api.MaxFrame)
	}
	for _, n := range []int{most + 1, most + 2, 2 * most, 1 << 24, 1<<24 + 1} {
		if got := Frame(make([]byte, n)); len(got) != 0 {
			t.Errorf("P19.1: Frame of %d bytes has %d bytes, want none", n, len(got))
		}
	}
	a, b := filled(most), filled(most-1)
	file := slices.Concat(Frame(a), Frame(nil), Frame(b), Frame([]byte("end")))
	checkScan(t, "records of the greatest length", file, a, nil, b, []byte("end"))
	checkScan(t, "one cut by a byte", Frame(a)[:head+most-1])
}

// A length that Frame does not write is no record's, though all its bytes are there and their sum is right.
func TestLengthAboveGreatest(t *testing.T) {
	for _, n := range []int{most + 1, most + 2, 2 * most, 1 << 24} {
		file := headed(uint32(n), make([]byte, n))
		checkScan(t, fmt.Sprint("a length of ", n), file)
		checkScan(t, fmt.Sprint("a length of ", n, ", third"), slices.Concat(framed([]byte("a"), nil), file, framed([]byte("b"))), []byte("a"), nil)
	}
}

func TestLengthBeyondEnd(t *testing.T) {
	for _, b := range [][]byte{nil, []byte("a"), []byte("123456789"), filled(300)} {
		for _, n := range []uint32{uint32(len(b)) + 1, uint32(len(b)) + 2, uint32(len(b)) + 8, 1000, 65536, most, most + 1, 1 << 24, 1<<31 - 1, 1 << 31, 1<<32 - 8, 1<<32 - 1} {
			// Its sum is that of the bytes that are there.
			file := headed(n, b)
			checkScan(t, fmt.Sprintf("a length of %d of %d", n, len(b)), file)
			checkScan(t, fmt.Sprintf("a length of %d of %d, second", n, len(b)), slices.Concat(framed([]byte("x")), file), []byte("x"))
			file[4], file[5], file[6], file[7] = 0, 0, 0, 0
			checkScan(t, fmt.Sprintf("a length of %d of %d without a sum", n, len(b)), file)
		}
	}
}

// A length that is less than the bytes behind it: they are those of the next one.
func TestLengthBelowEnd(t *testing.T) {
	file := framed([]byte("a"), []byte("bc"))
	checkScan(t, "one record and what is none", append(framed([]byte("a")), 1, 2, 3), []byte("a"))
	checkScan(t, "a sum of more bytes than the length", headed(1, []byte("bc")))
	checkScan(t, "a record of a frame", framed(file), file)
	checkScan(t, "a record of frames, and one behind", slices.Concat(framed(file), file), file, []byte("a"), []byte("bc"))
}

// some is records of many lengths.
func some() [][]byte {
	return [][]byte{[]byte("a"), nil, []byte("bc"), filled(17), nil, nil, filled(300), make([]byte, 9), bytes.Repeat([]byte{255}, 33), framed([]byte("in")), []byte("end")}
}

func TestOneBehindTheOther(t *testing.T) {
	var file []byte
	var records [][]byte
	checkScan(t, "nothing", nil)
	for i, b := range some() {
		file, records = append(file, Frame(b)...), append(records, b)
		checkScan(t, fmt.Sprint(i+1, " records"), file, records...)
	}
	file, records = nil, nil
	for n := range 400 {
		file, records = append(file, Frame(filled(n))...), append(records, filled(n))
	}
	checkScan(t, "400 records", file, records...)
	// Read on behind what was read, it is the same.
	got, n := Scan(file[:5000])
	rest, m := Scan(file[n:])
	if len(got) == 0 || len(got)+len(rest) != 400 || n+m != len(file) {
		t.Errorf("P19.1: %d and %d records of %d and %d bytes", len(got), len(rest), n, m)
	}
}

func TestManyRecords(t *testing.T) {
	for _, b := range [][]byte{nil, []byte("x")} {
		const times = 300_000
		file := bytes.Repeat(Frame(b), times)
		checkScan(t, "very many records", file, slices.Repeat([][]byte{b}, times)...)
	}
}

// whole is how many of the records lie with all their bytes ahead of byte n of their file.
func whole(records [][]byte, n int) int {
	for i, b := range records {
		n -= head + len(b)
		if n < 0 {
			return i
		}
	}
	return len(records)
}

func TestCutAtEachPlace(t *testing.T) {
	records := some()
	file := framed(records...)
	for n := range len(file) + 1 {
		want := records[:whole(records, n)]
		checkScan(t, fmt.Sprint("cut at ", n), file[:n], want...)
		checkScan(t, fmt.Sprint("cut at ", n, ", without spare room"), slices.Clip(slices.Clone(file[:n])), want...)
		// What stands behind it is other than what was there.
		other := slices.Clone(file[n:])
		for i := range other {
			other[i] = ^other[i]
		}
		checkScan(t, fmt.Sprint("cut at ", n, ", others behind"), slices.Concat(file[:n], other), want...)
	}
}

// Each byte as each other one, be it of a length, of a sum or of a record: whole ones behind it are not read.
func TestEachByteChanged(t *testing.T) {
	records := some()
	file := framed(records...)
	for i, was := range file {
		want := records[:whole(records, i)]
		for n := range 256 {
			if byte(n) == was {
				continue
			}
			file[i] = byte(n)
			checkScan(t, fmt.Sprintf("byte %d is %d", i, n), file, want...)
		}
		file[i] = was
	}
	checkScan(t, "as it was", file, records...)
}

func TestBytesLessOrMore(t *testing.T) {
	records := some()
	file := framed(records...)
	for i := range file {
		got, n := Scan(slices.Delete(slices.Clone(file), i, i+1))
		// Where the next byte is the same one, the byte that is gone is a later one.
		same := i
		for same+1 < len(file) && file[same+1] == file[i] {
			same++
		}
		if w := whole(records, same); len(got) != w || n != len(framed(records[:w]...)) {
			t.Fatalf("P19.1: byte %d less: %d records of %d bytes, want %d", i, len(got), n, w)
		}
		w := whole(records, i)
		more := file[i] ^ 0x55
		checkScan(t, fmt.Sprint("a byte more at ", i), slices.Insert(slices.Clone(file), i, more), records[:w]...)
	}
}

func TestSpoiltFirst(t *testing.T) {
	behind := framed([]byte("b"), []byte("c"))
	for what, front := range map[string][]byte{
		"a byte":                    {0},
		"seven noughts":             make([]byte, 7),
		"eight noughts":             make([]byte, 8),
		"many noughts":              make([]byte, 4096),
		"many bytes of bits":        bytes.Repeat([]byte{255}, 4096),
		"no sum":                    append([]byte{1, 0, 0, 0, 0, 0, 0, 0}, 'a'),
		"a sum of the record alone": append(binary.LittleEndian.AppendUint32([]byte{1, 0, 0, 0}, crc32.ChecksumIEEE([]byte("a"))), 'a'),
		"the highest byte first":    {0, 0, 0, 1, 0xc1, 0xf7, 0x8f, 0x63, 'a'},
		"a sum turned round":        {1, 0, 0, 0, 0xc1, 0xf7, 0x8f, 0x63, 'a'},
		"the sum first":             {0x63, 0x8f, 0xf7, 0xc1, 1, 0, 0, 0, 'a'},
		"another polynomial":        castagnoli([]byte("a")),
		"bits of a sum turned":      {1, 0, 0, 0, 0x63 ^ 255, 0x8f ^ 255, 0xf7 ^ 255, 0xc1 ^ 255, 'a'},
		"a record without a head":   []byte("123456789"),
	} {
		checkScan(t, what, front)
		checkScan(t, what+", whole ones behind", slices.Concat(front, behind))
		checkScan(t, what+", a whole one ahead", slices.Concat(framed([]byte("x")), front, behind), []byte("x"))
	}
}

func castagnoli(b []byte) []byte {
	out := binary.LittleEndian.AppendUint32(nil, uint32(len(b)))
	table := crc32.MakeTable(crc32.Castagnoli)
	s := crc32.Update(crc32.Checksum(out, table), table, b)
	return append(binary.LittleEndian.AppendUint32(out, s), b...)
}
