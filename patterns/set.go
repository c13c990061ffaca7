package patterns

// A byteSet is a set of bytes, one bit a byte.
type byteSet [4]uint64

// add puts the bytes from low to high into the set.
func (s *byteSet) add(low, high byte) {
	for b := int(low); b <= int(high); b++ {
		s[b/64] |= 1 << (b % 64)
	}
}

// has tells whether the byte is in the set.
func (s *byteSet) has(b byte) bool { return s[b/64]>>(b%64)&1 == 1 }

// others answers the set of all bytes that are not in this one.
func (s byteSet) others() byteSet {
	for i := range s {
		s[i] = ^s[i]
	}
	return s
}

// single answers the set of one byte.
func single(b byte) byteSet {
	var s byteSet
	s.add(b, b)
	return s
}
