package accept

// digestLen is the number of bytes of a digest.
const digestLen = 8

// The constants of FNV-1a.
const (
	start = 14695981039346656037
	prime = 1099511628211
)

// Digest returns the FNV-1a hash of s.
func Digest(s string) string {
	h := uint64(start)
	for i := range len(s) {
		h = (h ^ uint64(s[i])) * prime
	}
	var bytes [digestLen]byte
	for i := range bytes {
		bytes[digestLen-1-i] = byte(h >> (8 * i))
	}
	return string(bytes[:])
}
