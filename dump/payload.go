package dump

import (
	"strings"

	"cistern/crc"
)

// How many bytes stand in a payload around those of the value, which may have none.
const (
	typeBytes    = 1
	versionBytes = 2
	sumBytes     = 8
	leastBytes   = typeBytes + versionBytes + sumBytes
)

// seal gives the payload of a value's type and bytes.
func seal(typ int, body string) string {
	var out strings.Builder
	out.Grow(leastBytes + len(body))
	out.WriteByte(byte(typ))
	out.WriteString(body)
	out.WriteByte(Version & 0xff)
	out.WriteByte(Version >> 8)
	out.WriteString(crc.Text(crc.Sum(out.String())))
	return out.String()
}

// open gives the type and the bytes of the value in a payload; false, if it is none. Whether they are a value is not looked at.
func open(payload string) (typ int, body string, ok bool) {
	if len(payload) < leastBytes {
		return 0, "", false
	}
	summed := payload[:len(payload)-sumBytes]
	end := len(summed) - versionBytes
	if versionOf(summed[end:]) > Version {
		return 0, "", false
	}
	if sum, _ := crc.Read(payload[len(summed):]); sum != crc.Sum(summed) {
		return 0, "", false
	}
	return int(summed[0]), summed[typeBytes:end], true
}

func versionOf(bytes string) int { return int(bytes[0]) | int(bytes[1])<<8 }
