package slots

import "slices"

const (
	keyCount = 32
	headSize = 16
	perKey   = 4
	magic    = "\xa7slots1" // what a page of a store begins with
)

// record is a key's value.
type record struct {
	there bool
	value []byte
}

// records are all keys'.
type records [keyCount]record

// size is how many bytes of a page they take.
func (r records) size() int {
	n := headSize
	for _, x := range r {
		if x.there {
			n += perKey + len(x.value)
		}
	}
	return n
}

// pack makes a page: what it begins with, its number, how many records there are; of each its key and length; then the values. A page that has too few bytes for all that holds no record either, and its end is left out.
func pack(r records, number uint64, size int) []byte {
	out := make([]byte, 0, max(size, headSize))
	out = append(out, magic...)
	count := 0
	for _, x := range r {
		if x.there {
			count++
		}
	}
	out = append(out, byte(count))
	for k := range 8 {
		out = append(out, byte(number>>(8*k)))
	}
	for k, x := range r {
		if x.there {
			out = append(out, byte(k), 0, byte(len(x.value)), byte(len(x.value)>>8))
		}
	}
	for _, x := range r {
		out = append(out, x.value...)
	}
	for len(out) < size {
		out = append(out, 0)
	}
	return out[:size]
}

// unpack takes a page apart; false, if it is none of a store.
func unpack(b []byte) (uint64, records, bool) {
	if len(b) < headSize {
		short := slices.Equal(b, pack(records{}, 1, len(b)))
		return 1, records{}, short && len(b) > 0
	}
	if string(b[:len(magic)]) != magic {
		return 0, records{}, false
	}
	var number uint64
	for k := range 8 {
		number |= uint64(b[len(magic)+1+k]) << (8 * k)
	}
	var r records
	count := int(b[len(magic)])
	value := headSize + count*perKey
	if count > keyCount || value > len(b) || number > 1<<60 {
		return 0, records{}, false
	}
	for i := range count {
		h := b[headSize+i*perKey : headSize+(i+1)*perKey]
		k, n := int(h[0]), int(h[2])|int(h[3])<<8
		if k >= keyCount || r[k].there || value+n > len(b) {
			return 0, records{}, false
		}
		r[k] = record{there: true, value: slices.Clone(b[value : value+n])}
		value += n
	}
	return number, r, true
}
