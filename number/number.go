// Package number reads numbers as the texts of herepath have them, and holds them to bounds.
package number

import "herepath/api"

const maxDigits = 9

// Read takes decimal digits alone, at most nine: strconv would also take signs and needless zeros.
func Read(s string) (int, bool) {
	if s == "" || len(s) > maxDigits || s[0] == '0' && len(s) > 1 {
		return 0, false
	}
	n := 0
	for i := 0; i < len(s); i++ {
		if s[i] < '0' || s[i] > '9' {
			return 0, false
		}
		n = n*10 + int(s[i]-'0')
	}
	return n, true
}

// Within: is a number from one to another one?
func Within(n, from, to int) bool { return from <= n && n <= to }

// IsSystem: is it a number of a system, and so of a neighbour, or of a host?
func IsSystem(n int) bool { return Within(n, 1, api.MaxAS) }
