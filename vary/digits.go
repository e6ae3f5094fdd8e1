package vary

import (
	"iter"

	"yearbook/api"
)

const (
	base     = 128 // and what a byte has more, if another one follows
	baseBits = 7
	maxSize  = 10 // bytes of 2^64 - 1
	maxTenth = 1  // the last byte of 2^64 - 1: 9 times 7 bits are below it
)

// digits tells a number's bytes.
func digits(n uint64) iter.Seq[byte] {
	return func(yield func(byte) bool) {
		rest := n
		for rest >= base {
			if !yield(byte(rest%base) + base) {
				return
			}
			rest /= base
		}
		yield(byte(rest))
	}
}

// from tells the bytes that lie at at and behind it.
func from(b []byte, at int) iter.Seq[byte] {
	return func(yield func(byte) bool) {
		for i := at; i < len(b); i++ {
			if !yield(b[i]) {
				return
			}
		}
	}
}

// fold tells the number whose bytes a number with a sign has. Below 0 all bits are turned, which is twice as far as it is from 0, less 1.
func fold(n int64) uint64 {
	twice := uint64(n) << 1
	if n < 0 {
		return ^twice
	}
	return twice
}

// gathered is a number of which so many bytes have come.
type gathered struct {
	number uint64
	size   int
}

func (g *gathered) take(digit byte) {
	g.number |= uint64(digit%base) << (baseBits * g.size)
	g.size++
}

func (g *gathered) plain() uint64 {
	return g.number
}

// signed is what fold made the number of.
func (g *gathered) signed() int64 {
	half := int64(g.number >> 1)
	if g.number%2 == 1 {
		return ^half
	}
	return half
}

// read takes the bytes of the number that begins at at. While none has ended it, they are too short.
func (g *gathered) read(b []byte, at int) api.Errno {
	if at < 0 || at > len(b) {
		return api.ErrArg
	}
	e := api.ErrShort
reading:
	for digit := range from(b, at) {
		g.take(digit)
		switch {
		case g.size == maxSize && digit > maxTenth:
			e = api.ErrForm
			break reading
		case digit >= base:
			continue reading
		case digit == 0 && g.size > 1:
			// The same number without this byte is shorter, and only the shortest bytes are its own.
			e = api.ErrForm
			break reading
		default:
			e = api.OK
			break reading
		}
	}
	return e
}
