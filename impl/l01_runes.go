package impl

const MaxText = 400

const (
	lastRune       = 1114111
	firstSurrogate = 55296
	lastSurrogate  = 57343
)

// A continuation byte is continuationMark plus continuationBits bits of the code point.
const (
	continuationMark = 128
	continuationBits = 6
	continuationMask = 1<<continuationBits - 1
)

// leadMarks holds, by the length of an encoding, what its first byte adds to the top bits of the code point.
var leadMarks = [5]byte{0, 0, 192, 224, 240}

// RuneSize accepts data that is not a text: only the encoding at the offset counts.
func RuneSize(data []byte, at int) int {
	return codeSize(RuneAt(data, at))
}

func TextOk(data []byte) bool {
	if len(data) > MaxText {
		return false
	}
	next := 0
	for at := range len(data) {
		if at < next {
			continue
		}
		size := RuneSize(data, at)
		if size == 0 {
			return false
		}
		next = at + size
	}
	return true
}

func RuneAt(data []byte, at int) int {
	if at < 0 || at >= len(data) {
		return -1
	}
	size := formSize(data[at])
	if size == 0 || size > len(data)-at {
		return -1
	}
	r := int(data[at] - leadMarks[size])
	rest := data[at+1 : at+size]
	switch size {
	case 4:
		r, rest = addContinuation(r, rest)
		fallthrough
	case 3:
		r, rest = addContinuation(r, rest)
		fallthrough
	case 2:
		r, _ = addContinuation(r, rest)
	}
	// The form must be the one that the code point has: this rejects overlong encodings as well as what is no code point.
	if codeSize(r) != size {
		return -1
	}
	return r
}

func RuneBytes(r int) []byte {
	size := codeSize(r)
	if size == 0 {
		return nil
	}
	out := make([]byte, size)
	switch size {
	case 4:
		out[3] = continuationOf(r)
		r >>= continuationBits
		fallthrough
	case 3:
		out[2] = continuationOf(r)
		r >>= continuationBits
		fallthrough
	case 2:
		out[1] = continuationOf(r)
		r >>= continuationBits
	}
	out[0] = leadMarks[size] + byte(r)
	return out
}

func CutOk(data []byte, at int) bool {
	return TextOk(data) && isBoundary(data, at)
}

func RuneCount(data []byte) int {
	return RunesTo(data, len(data))
}

func PlaceOf(data []byte, n int) int {
	if n < 0 || !TextOk(data) {
		return -1
	}
	for at := range len(data) + 1 {
		if !isBoundary(data, at) {
			continue
		}
		if n == 0 {
			return at
		}
		n--
	}
	return -1
}

func RunesTo(data []byte, at int) int {
	if !CutOk(data, at) {
		return -1
	}
	count := 0
	for i := range at {
		if isBoundary(data, i) {
			count++
		}
	}
	return count
}

// codeSize returns the length of the encoding of r, or 0 if r is not a code point.
func codeSize(r int) int {
	switch {
	case r < 0 || r > lastRune || r >= firstSurrogate && r <= lastSurrogate:
		return 0
	case r < 128:
		return 1
	case r < 2048:
		return 2
	case r < 65536:
		return 3
	}
	return 4
}

// formSize returns the length of the encodings that start with this byte, or 0 if none does.
func formSize(lead byte) int {
	switch {
	case lead < 128:
		return 1
	case lead < 192:
		return 0
	case lead < 224:
		return 2
	case lead < 240:
		return 3
	case lead < 248:
		return 4
	}
	return 0
}

// addContinuation appends the bits of the first byte of rest to r and drops that byte.
// It returns -1 from the first wrong byte on, so that a caller needs to look only at the last result.
func addContinuation(r int, rest []byte) (int, []byte) {
	if r < 0 || !isContinuation(rest[0]) {
		return -1, rest[1:]
	}
	return r<<continuationBits | int(rest[0]&continuationMask), rest[1:]
}

func continuationOf(r int) byte {
	return continuationMark | byte(r&continuationMask)
}

func isContinuation(b byte) bool {
	return b&^continuationMask == continuationMark
}

// isBoundary is meant for data that is known to be a text: there, every other byte starts a code point.
func isBoundary(data []byte, at int) bool {
	if at < 0 || at > len(data) {
		return false
	}
	return at == len(data) || !isContinuation(data[at])
}
