package recv

import (
	"strings"

	"packtrain/api"
	"packtrain/crc"
	"packtrain/vary"
)

const (
	sign  = "R" // what each record begins with
	named = 4   // bytes of a name
	blank = "\x00"
)

// record tells what lasts.
type record struct {
	ahead       uint64 // how many records were written ahead of it
	name        uint32
	total, safe int
}

// putName is a name as bytes, the lowest one first.
func putName(name uint32) string {
	var b [named]byte
	for i := range named {
		b[i] = byte(name >> (8 * i))
	}
	return string(b[:])
}

// getName is the name that a text of four bytes at least begins with.
func getName(s string) uint32 {
	var name uint32
	for i := range named {
		name |= uint32(s[i]) << (8 * i)
	}
	return name
}

// bytes are a record's: there are never more than a sector has.
func (c record) bytes() string {
	numbers := vary.Put(uint64(c.total)) + vary.Put(uint64(c.safe))
	return crc.Seal(sign + vary.Put(c.ahead) + putName(c.name) + numbers)
}

// told is the record that the bytes of a sector tell of, whatever its sum is.
func told(s string) (record, bool) {
	ahead, size, err := vary.Get(s[len(sign):])
	if err != nil {
		return record{}, false
	}
	s = s[len(sign)+size:]
	c := record{ahead: ahead, name: getName(s)}
	s = s[named:]
	c.total, size, err = vary.Int(s, api.MaxTotal)
	if err != nil || c.total < 1 {
		return record{}, false
	}
	c.safe, _, err = vary.Int(s[size:], c.total)
	return c, err == nil
}

// read is the record that a sector has, if it is whole.
func read(sector string) (record, bool) {
	c, ok := told(sector)
	// There is just one way to write a record: if it is whole, the sector has that, and noughts behind.
	if !ok || strings.TrimRight(c.bytes(), blank) != strings.TrimRight(sector, blank) {
		return record{}, false
	}
	return c, true
}
