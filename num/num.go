// Package num is the layer 1: numbers as text.
package num

import (
	"strconv"

	"tranship/api"
)

// Put: see the document.
func Put(n int) string {
	return strconv.Itoa(n)
}

// Get: see the document.
func Get(s string) (int, bool) {
	if s == "" || len(s) > 1 && s[0] == '0' {
		return 0, false
	}
	n := 0
	for i := 0; i < len(s); i++ {
		if s[i] < '0' || s[i] > '9' {
			return 0, false
		}
		n = 10*n + int(s[i]-'0')
		// Leaving at once keeps n from wrapping round on a long text.
		if n > api.MaxNum {
			return 0, false
		}
	}
	return n, true
}
