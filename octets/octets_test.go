package octets

import "testing"

func TestNumbersAsBytes(t *testing.T) {
	for _, c := range []struct{ got, want string }{
		{U8(0), "\x00"}, {U8(255), "\xff"},
		{U16(0), "\x00\x00"}, {U16(33153), "\x81\x81"}, {U16(258), "\x01\x02"}, {U16(65535), "\xff\xff"},
		{U32(226), "\x00\x00\x00\xe2"}, {U32(0x01020304), "\x01\x02\x03\x04"},
		{U64(0x0102030405060708), "\x01\x02\x03\x04\x05\x06\x07\x08"}, {U64(1<<64 - 1), "\xff\xff\xff\xff\xff\xff\xff\xff"},
	} {
		if c.got != c.want {
			t.Errorf("%x, want %x", c.got, c.want)
		}
	}
}

func TestBytesAsNumbers(t *testing.T) {
	for _, c := range []struct {
		b    string
		want uint64
	}{
		{"", 0}, {"\xff", 255}, {"\x01\x02", 258}, {"\x00\x00\x00\xe2", 226}, {"\x80\x00\x00\x00", 1 << 31}, {"\xff\xff\xff\xff", 1<<32 - 1},
	} {
		if got := Number(c.b); got != c.want {
			t.Errorf("Number(%x) = %d, want %d", c.b, got, c.want)
		}
	}
}
