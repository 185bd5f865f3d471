package num

import (
	"math"
	"strconv"
	"strings"
	"testing"
)

func TestPut(t *testing.T) {
	for n, want := range map[int]string{0: "0", 5: "5", -40: "-40", 10: "10", 1000001: "1000001", math.MinInt: "-9223372036854775808", math.MaxInt: "9223372036854775807"} {
		if got := Put(n); got != want {
			t.Errorf("Put(%d) = %q", n, got)
		}
	}
}

func TestGetReadsWhatPutWrites(t *testing.T) {
	for n := 0; n <= 1000000; n += 1 + n/50 {
		if got, ok := Get(Put(n)); got != n || !ok {
			t.Fatalf("Get(Put(%d)) = %d %v", n, got, ok)
		}
	}
	for _, n := range []int{1, 9, 99, 100, 999999, 1000000} {
		if got, ok := Get(strconv.Itoa(n)); got != n || !ok {
			t.Errorf("Get(%d) = %d %v", n, got, ok)
		}
	}
}

func TestGetRefuses(t *testing.T) {
	for _, s := range []string{"", "00", "01", "007", "+1", "-1", "-0", "-40", "1000001", "1a", "a1", " 1", "1 ", "1_0", "1.0", "0x1", "18446744073709551616", "18446744073709551617", strings.Repeat("9", 100), "\xd9\xa1", "1\x00"} {
		if n, ok := Get(s); n != 0 || ok {
			t.Errorf("Get(%q) = %d %v", s, n, ok)
		}
	}
}
