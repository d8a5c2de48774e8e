package capt

// order is the order in which the bytes of a number stand in a file.
type order interface {
	get(b []byte) int    // the number that has these bytes, at most 4
	put(b []byte, v int) // makes these bytes the lowest ones of a number
}

type lowFirst struct{}

type highFirst struct{}

// orderOf returns the order with the lowest byte first or last.
func orderOf(low bool) order {
	if low {
		return lowFirst{}
	}
	return highFirst{}
}

func (lowFirst) get(b []byte) int {
	v := 0
	for i, x := range b {
		v |= int(x) << (8 * i)
	}
	return v
}

func (lowFirst) put(b []byte, v int) {
	for i := range b {
		b[i] = byte(v >> (8 * i))
	}
}

func (highFirst) get(b []byte) int {
	v := 0
	for _, x := range b {
		v = v<<8 | int(x)
	}
	return v
}

func (highFirst) put(b []byte, v int) {
	last := len(b) - 1
	for i := range b {
		b[last-i] = byte(v >> (8 * i))
	}
}
