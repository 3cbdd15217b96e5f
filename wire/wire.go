// Package wire is layer 1: numbers, texts and counts as bytes, each in one way alone, and frames with a sum. See shared/doc/01-wire.md.
package wire

import (
	"slices"

	"amnesia/api"
)

const (
	magic = "amn1"
	ahead = len(magic) + 4 // bytes of a frame ahead of its body
	added = ahead + 4      // bytes of a frame beside its body
)

// Sum: the sum of bytes.
func Sum(b []byte) uint32 {
	sum := ^uint32(0)
	for _, x := range b {
		sum ^= uint32(x)
		for range 8 {
			out := sum & 1
			sum = sum>>1 ^ 0xEDB88320*out
		}
	}
	return ^sum
}

// Seal: the frame of a body. ErrLong: the body is too long for a frame.
func Seal(body []byte) ([]byte, api.Errno) {
	if len(body) > api.MaxFrame-added {
		return nil, api.ErrLong
	}
	frame := make([]byte, 0, len(body)+added)
	frame = append(frame, magic...)
	for i := range 4 {
		frame = append(frame, byte(len(body)>>(24-8*i)))
	}
	frame = append(frame, body...)
	sum := Sum(frame)
	for i := range 4 {
		frame = append(frame, byte(sum>>(8*i)))
	}
	return frame, api.OK
}

// Open: the body of a frame. ErrLong, ErrShort, ErrMagic, ErrShort, ErrTail, ErrSum: the first that is wrong of its length, its beginning, the length that it tells, its sum.
func Open(frame []byte) ([]byte, api.Errno) {
	if e := checkOutside(frame); e != api.OK {
		return nil, e
	}
	end := len(frame) - 4
	if Sum(frame[:end]) != toldSum(frame[end:]) {
		return nil, api.ErrSum
	}
	return slices.Clone(frame[ahead:end]), api.OK
}

// checkOutside looks at all of a frame but its sum.
func checkOutside(frame []byte) api.Errno {
	switch {
	case len(frame) > api.MaxFrame:
		return api.ErrLong
	case len(frame) < added:
		return api.ErrShort
	case string(frame[:len(magic)]) != magic:
		return api.ErrMagic
	}
	// What is there and what is told are held against each other without a sum, so that no length that is told wraps.
	there, told := uint32(len(frame)-added), toldLength(frame[len(magic):ahead])
	switch {
	case there < told:
		return api.ErrShort
	case there > told:
		return api.ErrTail
	}
	return api.OK
}

// toldLength: the number in four bytes, the highest first.
func toldLength(b []byte) uint32 {
	var v uint32
	for i := range 4 {
		v = v<<8 | uint32(b[i])
	}
	return v
}

// toldSum: the number in four bytes, the lowest first.
func toldSum(b []byte) uint32 {
	var v uint32
	for i := range 4 {
		v |= uint32(b[i]) << (8 * i)
	}
	return v
}
