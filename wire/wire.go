// Package wire writes unsigned numbers as bytes, most significant byte first,
// and reads them back, at a place or one after the other.
package wire

import "timesync/api"

const (
	maxSize  = 8
	byteBits = 8
)

// Append returns b and the size bytes of n.
func Append(b []byte, n uint64, size int) ([]byte, api.Errno) {
	if !isSize(size) {
		return nil, api.ErrArg
	}
	if n>>(byteBits*size) != 0 {
		return nil, api.ErrRange
	}
	out := make([]byte, len(b)+size)
	copy(out, b)
	for i := range size {
		out[len(out)-1-i] = byte(n >> (byteBits * i))
	}
	return out, api.OK
}

// Get returns the number in the size bytes of b from the index at on.
func Get(b []byte, at, size int) (uint64, api.Errno) {
	if !isSize(size) {
		return 0, api.ErrArg
	}
	if at < 0 || size > len(b)-at {
		return 0, api.ErrShort
	}
	var n uint64
	for i := range size {
		n = n<<byteBits | uint64(b[at+i])
	}
	return n, api.OK
}

func isSize(size int) bool {
	return size >= 1 && size <= maxSize
}

// Reader reads bytes from the front. After its first error it reads no more.
type Reader struct {
	rest []byte
	err  api.Errno
}

// NewReader returns a reader of a copy of the bytes of b.
func NewReader(b []byte) *Reader {
	rest := make([]byte, len(b))
	copy(rest, b)
	return &Reader{rest: rest}
}

// Uint returns the next number of size bytes.
func (r *Reader) Uint(size int) uint64 {
	n, _ := r.number(size)
	return n
}

// Int returns the next number of size bytes in two's complement.
func (r *Reader) Int(size int) int {
	n, ok := r.number(size)
	if !ok {
		return 0
	}
	// The sign is the highest bit of the number, and a shift to the right
	// repeats the highest bit of an int.
	unused := byteBits * (maxSize - size)
	return int(n<<unused) >> unused
}

// number consumes the next number of size bytes.
func (r *Reader) number(size int) (uint64, bool) {
	if r.Err() != api.OK {
		return 0, false
	}
	n, err := Get(r.rest, 0, size)
	if err != api.OK {
		r.err = err
		return 0, false
	}
	r.rest = r.rest[size:]
	return n, true
}

// Bytes returns a copy of the next n bytes.
func (r *Reader) Bytes(n int) []byte {
	taken := r.take(n)
	out := make([]byte, len(taken))
	copy(out, taken)
	return out
}

// Skip consumes n bytes.
func (r *Reader) Skip(n int) {
	r.take(n)
}

// take consumes the next n bytes and returns them in the reader's own memory.
func (r *Reader) take(n int) []byte {
	if r.Err() != api.OK {
		return nil
	}
	if n < 0 {
		r.err = api.ErrArg
		return nil
	}
	if n > len(r.rest) {
		r.err = api.ErrShort
		return nil
	}
	taken := r.rest[:n]
	r.rest = r.rest[n:]
	return taken
}

// Left returns how many bytes are left.
func (r *Reader) Left() int {
	if r == nil {
		return 0
	}
	return len(r.rest)
}

// Err returns the first error.
func (r *Reader) Err() api.Errno {
	if r == nil {
		return api.ErrNil
	}
	return r.err
}
