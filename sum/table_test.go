package sum

import (
	"hash/crc32"
	"testing"
)

func TestTableStands(t *testing.T) { // section 'Ways' of chapter 2
	Crc(nil)
	if crcTable != *crc32.IEEETable {
		t.Error("the table is not that of the CRC")
	}
	crcTable[1]++
	defer func() { crcTable[1]-- }()
	spoilt := crcTable
	Crc(nil)
	if crcTable != spoilt {
		t.Error("the table is built more than once")
	}
}

func TestAnswersDoNotComeOfTheTable(t *testing.T) {
	Crc(nil)
	kept := crcTable
	defer func() { crcTable = kept }()
	clear(crcTable[:])
	const text, sealed = "123456789", "123456789\x26\x39\xF4\xCB"
	if Crc([]byte(text)) != 0xCBF43926 {
		t.Error("Crc")
	}
	if b, e := Seal([]byte(text)); string(b) != sealed || e != 0 {
		t.Errorf("Seal: %x, %d", b, e)
	}
	if b, e := Open([]byte(sealed)); string(b) != text || e != 0 {
		t.Errorf("Open: %x, %d", b, e)
	}
}
