package octet

import (
	"bytes"

	"reliquary/api"
)

// Reader reads bytes.
type Reader struct {
	left  []byte // its own, so that nobody changes them under way
	fault api.Errno
}

// Read makes a reader.
func Read(b []byte) *Reader { return &Reader{left: bytes.Clone(b)} }

// U8 reads a number of one byte.
func (r *Reader) U8() uint8 { return uint8(number(r.pass, 1)) }

// U16 reads a number of two bytes.
func (r *Reader) U16() uint16 { return uint16(number(r.pass, 2)) }

// U32 reads a number of four bytes.
func (r *Reader) U32() uint32 { return uint32(number(r.pass, 4)) }

// U64 reads a number of eight bytes.
func (r *Reader) U64() uint64 { return number(r.pass, 8) }

// number tells the number of so many bytes; of none, as behind an error, it is 0.
func number(pass func(int) []byte, size int) uint64 {
	var n uint64
	for _, b := range pass(size) {
		n = n<<8 | uint64(b)
	}
	return n
}

// Take reads some bytes.
func (r *Reader) Take(n int) []byte { return bytes.Clone(r.pass(n)) }

// Text reads a text.
func (r *Reader) Text(most int) string {
	sound := r.sound(func() api.Errno {
		switch {
		case len(r.left) == 0 || len(r.left)-1 < int(r.left[0]):
			return api.ErrCut
		case int(r.left[0]) > most:
			return api.ErrLong
		}
		return api.OK
	})
	if !sound {
		return ""
	}
	return string(r.pass(int(r.U8())))
}

// pass tells the next bytes, and passes over them. They are the reader's own: they are not handed out.
func (r *Reader) pass(n int) []byte {
	sound := r.sound(func() api.Errno {
		switch {
		case n < 0:
			return api.ErrArg
		case n > len(r.left):
			return api.ErrCut
		}
		return api.OK
	})
	if !sound {
		return nil
	}
	passed := r.left[:n]
	r.left = r.left[n:]
	return passed
}

// sound looks for an error, unless there was one ahead, and tells whether there is none.
func (r *Reader) sound(look func() api.Errno) bool {
	if r == nil {
		return false
	}
	if r.fault == api.OK {
		r.fault = look()
	}
	if r.fault != api.OK {
		r.left = nil // nothing is read behind an error
		return false
	}
	return true
}

// Left tells how many bytes are left.
func (r *Reader) Left() int {
	if r == nil {
		return 0
	}
	return len(r.left)
}

// Err tells the first error.
func (r *Reader) Err() api.Errno {
	if r == nil {
		return api.ErrNil
	}
	return r.fault
}
