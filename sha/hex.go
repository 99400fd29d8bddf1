package sha

import "reliquary/api"

const digits = "0123456789abcdef"

// Hex tells bytes as digits.
func Hex(b []byte) string {
	told := make([]byte, 0, 2*len(b))
	for _, one := range b {
		told = append(told, digits[one>>4], digits[one&15])
	}
	return string(told)
}

// Parse reads a sum's digits.
func Parse(s string) (api.Sum, api.Errno) {
	var sum api.Sum
	if len(s) != 2*len(sum) {
		return api.Sum{}, api.ErrForm
	}
digit:
	for i := range len(s) {
		for value := range len(digits) {
			if s[i] == digits[value] {
				sum[i/2] = sum[i/2]<<4 | byte(value)
				continue digit
			}
		}
		return api.Sum{}, api.ErrForm
	}
	return sum, api.OK
}
