// Package octets: numbers as bytes, the high byte first.
package octets

// U8 is a number as one byte.
func U8(n int) string { return text(uint64(n), 1) }

// U16 is a number as two bytes.
func U16(n int) string { return text(uint64(n), 2) }

// U32 is a number as four bytes.
func U32(n int) string { return text(uint64(n), 4) }

// U64 is a number as eight bytes.
func U64(n uint64) string { return text(n, 8) }

func text(n uint64, size int) string {
	b := make([]byte, size)
	for i := size - 1; i >= 0; i-- {
		b[i] = byte(n)
		n >>= 8
	}
	return string(b)
}

// Number is the number that some bytes, at most eight, are made of.
func Number(b string) uint64 {
	var n uint64
	for i := range len(b) {
		n = n<<8 | uint64(b[i])
	}
	return n
}
