package take

import (
	"bytes"

	"deadwax/api"
)

// The layout of a file: 0 is written as zero, since channels have no sign there; head bytes and those of the name come before the samples, foot bytes after them.
const (
	zero = 1 << 15
	head = 5
	foot = 4
)

// Pack returns the file of a take. (P1.11)
func Pack(t api.Take) ([]byte, api.Errno) {
	if tooLong(t) {
		return nil, api.ErrMany
	}
	if !validTake(t) {
		return nil, api.ErrArg
	}
	b := []byte{84, 75, byte(len(t.Name))}
	b = append(b, t.Name...)
	b = appendPair(b, int64(len(t.Data)))
	for _, s := range t.Data {
		b = appendPair(b, s.L+zero)
		b = appendPair(b, s.R+zero)
	}
	low, high := checksum(b)
	b = appendPair(b, high)
	b = appendPair(b, low)
	return b, api.OK
}

// Unpack returns the take of a file. (P1.11)
func Unpack(b []byte) (api.Take, api.Errno) {
	if len(b) > api.MaxText {
		return api.Take{}, api.ErrLong
	}
	t, ok := unpacked(b)
	if !ok {
		return api.Take{}, api.ErrForm
	}
	// What is not read on the way, as the mark and the checksum, is held against the file as Pack writes it.
	if again, e := Pack(t); e != api.OK || !bytes.Equal(again, b) {
		return api.Take{}, api.ErrForm
	}
	return t, api.OK
}

// unpacked returns the take in bytes that are as many as the file of such a take has.
func unpacked(b []byte) (api.Take, bool) {
	if len(b) < head {
		return api.Take{}, false
	}
	name := int(b[2])
	if len(b) < head+name {
		return api.Take{}, false
	}
	many := int(pair(b[head-2+name:]))
	if len(b) != head+name+4*many+foot {
		return api.Take{}, false
	}
	t := api.Take{Name: string(b[3 : 3+name]), Data: make([]api.Sample, many)}
	for i := range many {
		at := head + name + 4*i
		t.Data[i] = api.Sample{L: pair(b[at:]) - zero, R: pair(b[at+2:]) - zero}
	}
	return t, true
}

func appendPair(b []byte, x int64) []byte { return append(b, byte(x>>8), byte(x)) }

func pair(b []byte) int64 { return int64(b[0])<<8 | int64(b[1]) }

// checksum returns both halves of the checksum, A and B.
func checksum(b []byte) (int64, int64) {
	const modulus = 65521
	low, high := int64(1), int64(0)
	for _, x := range b {
		low = (low + int64(x)) % modulus
		high = (high + low) % modulus
	}
	return low, high
}
