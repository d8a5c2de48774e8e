package bits

// half is the greatest number of 16 bits.
const half = 0xffff

// prime is what the sums of Adler are taken modulo.
const prime = 65521

// crcTable has the remainder of each 4 bits by the polynomial EDB88320; so few bits that the table can be written out.
var crcTable = [16]uint32{
	0x00000000, 0x1db71064, 0x3b6e20c8, 0x26d930ac,
	0x76dc4190, 0x6b6b51f4, 0x4db26158, 0x5005713c,
	0xedb88320, 0xf00f9344, 0xd6d6a3e8, 0xcb61b38c,
	0x9b64c2b0, 0x86d3d2d4, 0xa00ae278, 0xbdbdf21c,
}

// Sum returns the check of the internet.
func Sum(b []byte) int {
	sum := 0
	for i, x := range b {
		if i%2 == 0 {
			sum += int(x) << 8
		} else {
			sum += int(x)
		}
	}
	return complement(fold(sum))
}

// Mend returns the check that sum becomes when the 16 bit number was is exchanged for now.
func Mend(sum, was, now int) int {
	return complement(fold(complement(sum) + complement(was) + now&half))
}

// Crc returns the check by the polynomial EDB88320.
func Crc(b []byte) int {
	crc := ^uint32(0)
	for _, x := range b {
		crc ^= uint32(x)
		crc = crc>>4 ^ crcTable[crc&15]
		crc = crc>>4 ^ crcTable[crc&15]
	}
	return int(^crc)
}

// Adler returns the check of two sums.
func Adler(b []byte) int {
	first, second := 1, 0
	for _, x := range b {
		first = (first + int(x)) % prime
		second = (second + first) % prime
	}
	return second<<16 | first
}

// fold adds what goes beyond 16 bits to the lowest ones.
func fold(sum int) int {
	for sum > half {
		sum = sum&half + sum>>16
	}
	return sum
}

// complement turns the 16 lowest bits, and leaves out the others.
func complement(v int) int {
	return ^v & half
}
