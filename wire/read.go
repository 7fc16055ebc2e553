package wire

import (
	"math"
	"slices"

	"tracery/api"
)

// Reader is a place in some bytes.
type Reader struct {
	bytes []byte
	at    int
	// A reader of no bytes is one that can be asked, a zero reader is none.
	open bool
}

// Open answers a reader at the beginning of these bytes, as they are now.
func Open(b []byte) *Reader {
	return &Reader{bytes: slices.Clone(b), open: true}
}

// Place tells how many bytes the reader has gone.
func (r *Reader) Place() int {
	if !r.there() {
		return 0
	}
	return r.at
}

// Left tells how many bytes are behind the reader's place.
func (r *Reader) Left() int {
	if !r.there() {
		return 0
	}
	return len(r.bytes) - r.at
}

// Number reads a number.
func (r *Reader) Number() (uint64, api.Errno) { return orBack(r, (*Reader).number) }

// Signed reads a signed number.
func (r *Reader) Signed() (int64, api.Errno) { return orBack(r, (*Reader).signed) }

// Float reads a float.
func (r *Reader) Float() (float64, api.Errno) { return orBack(r, (*Reader).float) }

// Complex reads a complex number.
func (r *Reader) Complex() (complex128, api.Errno) {
	return orBack(r, func(r *Reader) (complex128, api.Errno) {
		re, im, e := takeTwo(r, (*Reader).float)
		return complex(re, im), e
	})
}

// Text reads a text of at most so many bytes.
func (r *Reader) Text(most int) (string, api.Errno) {
	return orBack(r, func(r *Reader) (string, api.Errno) {
		n, e := r.count(most)
		if e != api.OK {
			return "", e
		}
		b, e := r.next(n)
		return string(b), e
	})
}

// Whole reads a whole number.
func (r *Reader) Whole() (api.Whole, api.Errno) { return orBack(r, (*Reader).whole) }

// Frac reads a fraction.
func (r *Reader) Frac() (api.Frac, api.Errno) { return orBack(r, (*Reader).frac) }

// Gauss reads an exact complex number.
func (r *Reader) Gauss() (api.Gauss, api.Errno) {
	return orBack(r, func(r *Reader) (api.Gauss, api.Errno) {
		re, im, e := takeTwo(r, (*Reader).frac)
		return api.Gauss{Re: re, Im: im}, e
	})
}

// Take reads a list of at most so many things, each of them by one.
func Take[T any](r *Reader, most int, one func(*Reader) (T, api.Errno)) ([]T, api.Errno) {
	if one == nil {
		return nil, api.ErrNil
	}
	return orBack(r, func(r *Reader) ([]T, api.Errno) {
		n, e := r.count(most)
		if e != api.OK {
			return nil, e
		}
		// No room is made ahead: how many there are is only what the bytes say.
		var l []T
		for range n {
			x, e := one(r)
			if e != api.OK {
				return nil, e
			}
			l = append(l, x)
		}
		return l, api.OK
	})
}

func (r *Reader) there() bool { return r != nil && r.open }

// orBack is the one place that asks for the reader and that puts it back
// beside an error, so that what is read in parts need not undo its parts.
func orBack[T any](r *Reader, read func(*Reader) (T, api.Errno)) (T, api.Errno) {
	var none T
	if !r.there() {
		return none, api.ErrNil
	}
	start := r.at
	x, e := read(r)
	if e != api.OK {
		r.at = start
		return none, e
	}
	return x, api.OK
}

// The methods below, and takeTwo, may leave the reader anywhere beside an
// error: orBack, around them, sets that right.

func (r *Reader) number() (uint64, api.Errno) {
	var n uint64
	e := api.ErrEnd
digits:
	for i, b := range r.bytes[r.at:] {
		switch {
		case b == 128 && i == 0, n > math.MaxUint64>>7:
			e = api.ErrForm
			break digits
		default:
			n <<= 7
			n |= uint64(b & 127)
			if b < 128 {
				r.at += i + 1
				e = api.OK
				break digits
			}
		}
	}
	return n, e
}

func (r *Reader) signed() (int64, api.Errno) {
	n, e := r.number()
	half := int64(n >> 1)
	if n&1 != 0 {
		half = ^half
	}
	return half, e
}

func (r *Reader) float() (float64, api.Errno) {
	b, e := r.next(8)
	if e != api.OK {
		return 0, e
	}
	var bits uint64
	for _, x := range b {
		bits <<= 8
		bits |= uint64(x)
	}
	x := math.Float64frombits(bits)
	if math.IsNaN(x) && bits != nanBits {
		return 0, api.ErrForm
	}
	return x, api.OK
}

func (r *Reader) whole() (api.Whole, api.Errno) {
	head, e := r.number()
	if e != api.OK {
		return api.Whole{}, e
	}
	if head>>1 > api.MaxWide {
		return api.Whole{}, api.ErrForm
	}
	b, e := r.next(head >> 1)
	if e != api.OK {
		return api.Whole{}, e
	}
	w := api.Whole{Neg: head&1 != 0, Mag: string(b)}
	if !plainWhole(w) {
		return api.Whole{}, api.ErrForm
	}
	return w, api.OK
}

func (r *Reader) frac() (api.Frac, api.Errno) {
	num, den, e := takeTwo(r, (*Reader).whole)
	if e != api.OK {
		return api.Frac{}, e
	}
	x := api.Frac{Num: num, Den: den}
	if !plainFrac(x) {
		return api.Frac{}, api.ErrForm
	}
	return x, api.OK
}

func (r *Reader) count(most int) (uint64, api.Errno) {
	if most < 0 {
		return 0, api.ErrArg
	}
	n, e := r.number()
	if e == api.OK && n > uint64(most) {
		return 0, api.ErrLong
	}
	return n, e
}

// next answers bytes of the reader's own: they are not to be handed out.
func (r *Reader) next(n uint64) ([]byte, api.Errno) {
	if n > uint64(r.Left()) {
		return nil, api.ErrEnd
	}
	b := r.bytes[r.at : r.at+int(n)]
	r.at += int(n)
	return b, api.OK
}

func takeTwo[T any](r *Reader, one func(*Reader) (T, api.Errno)) (a, b T, e api.Errno) {
	if a, e = one(r); e != api.OK {
		return a, b, e
	}
	b, e = one(r)
	return a, b, e
}
