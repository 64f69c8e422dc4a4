package logs

// A frame is how long its record is, in two bytes, the low one first; the record; and its seal.
const (
	headLen = 2
	sealLen = 4
)

// seal: by it a frame that is whole is known. The last byte of one is never 0, which is what stands there when a frame was cut off.
type seal [sealLen]byte

// sealOf: the FNV-1a sum of a record, made odd in its last byte.
func sealOf(record []byte) (s seal) {
	sum := uint32(2166136261)
	for _, c := range record {
		sum = (sum ^ uint32(c)) * 16777619
	}
	for i := range s {
		s[i] = byte(sum >> (8 * i))
	}
	s[sealLen-1] |= 1
	return s
}

// appendFrame: the frame of a record behind b.
func appendFrame(b, record []byte) []byte {
	b = append(b, byte(len(record)), byte(len(record)>>8))
	b = append(b, record...)
	s := sealOf(record)
	return append(b, s[:]...)
}

// frameLen: how long the frame is with which b begins. Where its head is cut off too, it is as long as the noughts that make up for it say.
func frameLen(b []byte) int {
	n := headLen + sealLen
	for i, c := range b[:min(headLen, len(b))] {
		n += int(c) << (8 * i)
	}
	return n
}

// cutFrame: the record of the frame with which b begins, and how long that frame is, which may be more than there is of it; whole: the record is as it was written.
func cutFrame(b []byte) (record []byte, length int, whole bool) {
	length = frameLen(b)
	if length > len(b) {
		return nil, length, false
	}
	end := length - sealLen
	record = b[headLen:end:end] // no room to run over into what stands behind it
	return record, length, seal(b[end:length]) == sealOf(record)
}

// tellAll tells the records of those frames that are whole, and answers how many bytes the last frame lacks.
func tellAll(b []byte, tell func(record []byte)) (short int) {
	for len(b) > 0 {
		record, length, whole := cutFrame(b)
		if length > len(b) {
			return length - len(b)
		}
		if whole {
			tell(record)
		}
		b = b[length:]
	}
	return 0
}
