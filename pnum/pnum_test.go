package pnum

import (
	"math"
	"math/big"
	"slices"
	"testing"

	"turnbuckle/api"
)

// highest is the highest number that a datagram may have.
const highest = 1<<62 - 1

// halves are half of how many cut numbers there are of 1, 2, 3 and 4 bytes.
func halves() []int {
	return []int{128, 32768, 8388608, 2147483648}
}

// outside are what no datagram has as its number.
func outside() []int {
	return []int{-1, -2, -256, -1 << 62, math.MinInt + 1, math.MinInt, 1 << 62, 1<<62 + 1, math.MaxInt - 1, math.MaxInt}
}

// noWidths are widths that are none.
func noWidths() []int {
	return []int{0, 5, -1, -2, -4, 6, 7, 8, 16, 63, 64, math.MinInt, math.MaxInt}
}

// largests are greatest numbers of one who has had some: none, the first ones, those next to where the half is reached, and the last ones.
func largests() []int {
	all := []int{-1, 0, 1, 2, 37, 0xA82F30EA, 0xABE8B3, 1 << 61}
	for _, half := range halves() {
		for off := -3; off <= 3; off++ {
			all = append(all, half+off, 2*half+off, 3*half+off, highest-half+off, highest-2*half+off)
		}
	}
	for off := range 4 {
		all = append(all, highest-off)
	}
	return all
}

// slowWidth is Width's answer by numbers that have no end: 0 where none will do.
func slowWidth(n, acked int) int {
	twice := new(big.Int).Sub(big.NewInt(int64(n)), big.NewInt(int64(acked)))
	twice.Mul(twice, big.NewInt(2))
	many := big.NewInt(1)
	for width := 1; width <= 4; width++ {
		many.Mul(many, big.NewInt(256))
		if many.Cmp(twice) >= 0 {
			return width
		}
	}
	return 0
}

// slowLow are the low bits, by dividing.
func slowLow(n, width int) int {
	return n % (2 * halves()[width-1])
}

// slowGrow is what was cut, found by going over the numbers with these low bits, one count after the other.
func slowGrow(largest, cut, width int) int {
	many := 2 * halves()[width-1]
	want := largest + 1
	n := want/many*many + cut - 3*many
	for n <= want-many/2 {
		n += many
	}
	if n > want+many/2 {
		panic("no number with these low bits is next to the one that is wanted")
	}
	if n < 0 {
		return n + many
	}
	if n > highest {
		return n - many
	}
	return n
}

func wantWidth(t *testing.T, n, acked, want int) {
	t.Helper()
	if got, e := Width(n, acked); got != want || e != api.OK {
		t.Errorf("Width(%d, %d) is %d, %v, not %d", n, acked, got, e, want)
	}
}

func noWidth(t *testing.T, n, acked int) {
	t.Helper()
	if got, e := Width(n, acked); got != 0 || e != api.ErrArg {
		t.Errorf("Width(%d, %d) is %d, %v", n, acked, got, e)
	}
}

func wantGrown(t *testing.T, largest, cut, width, want int) {
	t.Helper()
	if got, e := Grow(largest, cut, width); got != want || e != api.OK {
		t.Errorf("Grow(%d, %d, %d) is %d, %v, not %d", largest, cut, width, got, e, want)
	}
}

func notGrown(t *testing.T, largest, cut, width int) {
	t.Helper()
	if got, e := Grow(largest, cut, width); got != 0 || e != api.ErrArg {
		t.Errorf("Grow(%d, %d, %d) is %d, %v", largest, cut, width, got, e)
	}
}

// P3.1

func TestWidth(t *testing.T) {
	wantWidth(t, 0, -1, 1)
	wantWidth(t, 1, -1, 1)
	wantWidth(t, 1, 0, 1)
	wantWidth(t, 127, -1, 1)
	wantWidth(t, 128, -1, 2)
	wantWidth(t, highest, highest-1, 1)
	wantWidth(t, highest-1, highest-2, 1)
	wantWidth(t, 0xAC5C02, 0xABE8B3, 2)
	wantWidth(t, 0xACE8FE, 0xABE8B3, 3)
	wantWidth(t, 0xA82F9B32, 0xA82F30EA, 2)
}

func TestWidthAtTheHalf(t *testing.T) {
	for i, half := range halves() {
		for _, acked := range []int{-1, 0, 1, 255, 256, 99999, 1 << 40, highest - half - 1} {
			wantWidth(t, acked+half-1, acked, i+1)
			wantWidth(t, acked+half, acked, i+1)
			if i+1 < len(halves()) {
				wantWidth(t, acked+half+1, acked, i+2)
			} else {
				noWidth(t, acked+half+1, acked)
			}
		}
		wantWidth(t, highest, highest-half, i+1)
	}
}

func TestWidthByNumbersWithoutEnd(t *testing.T) {
	all := slices.Concat(largests(), []int{1 << 32, 1 << 33, 1<<61 - 1, 1<<61 + 1})
	for _, acked := range all {
		for _, n := range all {
			if n < 0 || acked >= n {
				continue
			}
			if want := slowWidth(n, acked); want > 0 {
				wantWidth(t, n, acked, want)
			} else {
				noWidth(t, n, acked)
			}
		}
	}
}

func TestWidthRefusesNumbersThatAreNone(t *testing.T) {
	for _, n := range outside() {
		for _, acked := range append(outside(), 0, 1, highest-1, highest, n-1, n+1) {
			noWidth(t, n, acked)
		}
	}
}

func TestWidthRefusesWhatCannotBeAcked(t *testing.T) {
	for _, n := range []int{0, 1, 2, 127, 128, 255, 256, 1 << 32, highest - 1, highest} {
		for _, acked := range []int{-2, -3, -128, -1 << 31, -1 << 62, math.MinInt + 1, math.MinInt} {
			noWidth(t, n, acked)
		}
		for _, acked := range []int{n, n + 1, n + 2, n + 128, highest, highest + 1, math.MaxInt} {
			noWidth(t, n, acked)
		}
	}
}

func TestWidthRefusesWhatFourBytesCannotTell(t *testing.T) {
	for _, distance := range []int{1<<31 + 1, 1 << 32, 1<<32 + 1, 1<<33 + 128, 1 << 61, 1<<61 + 1, 1<<62 - 1} {
		for _, acked := range []int{-1, 0, highest - distance} {
			if acked <= highest-distance {
				noWidth(t, acked+distance, acked)
			}
		}
	}
	noWidth(t, highest, -1)
	noWidth(t, highest, 0)
}

func TestCut(t *testing.T) {
	n := 0x3123456789ABCDEF
	for i, want := range []int{0xEF, 0xCDEF, 0xABCDEF, 0x89ABCDEF} {
		if got, e := Cut(n, i+1); got != want || e != api.OK {
			t.Errorf("Cut(%X, %d) is %X, %v, not %X", n, i+1, got, e, want)
		}
	}
	for _, n := range append(largests(), 255, 256, 65535, 65536) {
		for width := 1; width <= 4 && n >= 0; width++ {
			if got, e := Cut(n, width); got != slowLow(n, width) || e != api.OK {
				t.Errorf("Cut(%X, %d) is %X, %v, not %X", n, width, got, e, slowLow(n, width))
			}
		}
	}
}

func TestCutOfTheFirstAndTheLastNumber(t *testing.T) {
	for i, half := range halves() {
		if got, e := Cut(0, i+1); got != 0 || e != api.OK {
			t.Errorf("Cut(0, %d) is %d, %v", i+1, got, e)
		}
		if got, e := Cut(highest, i+1); got != 2*half-1 || e != api.OK {
			t.Errorf("Cut(%d, %d) is %d, %v", highest, i+1, got, e)
		}
	}
}

func TestCutRefuses(t *testing.T) {
	for _, n := range outside() {
		for _, width := range append(noWidths(), 1, 2, 3, 4) {
			if got, e := Cut(n, width); got != 0 || e != api.ErrArg {
				t.Errorf("Cut(%d, %d) is %d, %v", n, width, got, e)
			}
		}
	}
	for _, n := range []int{0, 1, 255, 1 << 32, highest} {
		for _, width := range noWidths() {
			if got, e := Cut(n, width); got != 0 || e != api.ErrArg {
				t.Errorf("Cut(%d, %d) is %d, %v", n, width, got, e)
			}
		}
	}
}

// P3.2

func TestGrow(t *testing.T) {
	wantGrown(t, 0xA82F30EA, 0x9B32, 2, 0xA82F9B32)
	wantGrown(t, 0xA82F30EA, 0x30EB, 2, 0xA82F30EB)
	wantGrown(t, 0xA82F30EA, 0x30EA, 2, 0xA82F30EA)
	wantGrown(t, 0xA82F30EA, 0xEA, 1, 0xA82F30EA)
	wantGrown(t, 0xA82F30EA, 0x00, 1, 0xA82F3100)
	wantGrown(t, 0xA82FFFFF, 0x0000, 2, 0xA8300000)
	wantGrown(t, 0xA8300000, 0xFFFF, 2, 0xA82FFFFF)
}

func TestGrowNextToTheHalf(t *testing.T) {
	for i, half := range halves() {
		width, many := i+1, 2*half
		for _, want := range []int{3 * many, 5*many + 1, 7*many + half, 9*many - 1, 1<<60 + 12345, highest - many} {
			above, below := want+half, want-half
			wantGrown(t, want-1, above%many, width, above)
			wantGrown(t, want-1, (above-1)%many, width, above-1)
			wantGrown(t, want-1, (above+1)%many, width, below+1)
			wantGrown(t, want-1, below%many, width, above)
			wantGrown(t, want-1, (below+1)%many, width, below+1)
			wantGrown(t, want-1, (below-1)%many, width, above-1)
			wantGrown(t, want-1, want%many, width, want)
			wantGrown(t, want-1, (want-1)%many, width, want-1)
		}
	}
}

func TestGrowNextToZero(t *testing.T) {
	for i, half := range halves() {
		width, many := i+1, 2*half
		for _, cut := range []int{0, 1, half - 1, half, half + 1, many - 2, many - 1} {
			wantGrown(t, -1, cut, width, cut)
			wantGrown(t, half-2, cut, width, cut)
		}
		wantGrown(t, 0, many-1, width, many-1)
		wantGrown(t, half-1, 0, width, many)
		wantGrown(t, half-1, 1, width, 1)
		wantGrown(t, half-1, many-1, width, many-1)
		wantGrown(t, half, 0, width, many)
		wantGrown(t, half, 1, width, many+1)
		wantGrown(t, half, 2, width, 2)
	}
}

func TestGrowNextToTheLastNumber(t *testing.T) {
	for i, half := range halves() {
		width, many := i+1, 2*half
		for _, largest := range []int{highest, highest - 1, highest - half + 1, highest - half} {
			for _, cut := range []int{1, half - 1, half, half + 1, many - 2, many - 1} {
				wantGrown(t, largest, cut, width, highest-(many-1)+cut)
			}
		}
		wantGrown(t, highest, 0, width, highest-(many-1))
		wantGrown(t, highest-half, 0, width, highest-(many-1))
		wantGrown(t, highest-half-1, many-1, width, highest)
		wantGrown(t, highest-half-1, many-2, width, highest-1)
		wantGrown(t, highest-half-1, 0, width, highest-(many-1))
		wantGrown(t, highest-half-2, many-1, width, highest-many)
	}
}

func TestGrowOneByOne(t *testing.T) {
	for _, largest := range largests() {
		for width := 1; width <= 4; width++ {
			many := 2 * halves()[width-1]
			for step := range 256 {
				cut := step * (many / 256)
				wantGrown(t, largest, cut, width, slowGrow(largest, cut, width))
				cut = many - 1 - step
				wantGrown(t, largest, cut, width, slowGrow(largest, cut, width))
			}
		}
	}
}

func TestGrowRefusesLargestThatIsNone(t *testing.T) {
	for _, largest := range outside() {
		if largest == -1 {
			continue // none at all
		}
		for _, width := range append(noWidths(), 1, 2, 3, 4) {
			notGrown(t, largest, 0, width)
		}
	}
}

func TestGrowRefusesWidths(t *testing.T) {
	for _, width := range noWidths() {
		for _, largest := range []int{-1, 0, 1, 1 << 32, highest} {
			for _, cut := range []int{-1, 0, 1, 255, 256, 1 << 32, math.MaxInt} {
				notGrown(t, largest, cut, width)
			}
		}
	}
}

func TestGrowRefusesWhatHasNoRoom(t *testing.T) {
	for i, half := range halves() {
		width, many := i+1, 2*half
		for _, largest := range []int{-1, 0, half, many, highest - 1, highest} {
			for _, cut := range []int{-1, -2, -half, -many, math.MinInt, many, many + 1, 2 * many, 1 << 62, math.MaxInt} {
				notGrown(t, largest, cut, width)
			}
		}
	}
}

// P3.3

// goesAndComes asks that a number is the same again for one whose largest is this.
func goesAndComes(t *testing.T, n, acked, largest int) {
	t.Helper()
	width, e := Width(n, acked)
	if e != api.OK {
		t.Fatalf("Width(%d, %d): %v", n, acked, e)
	}
	cut, e := Cut(n, width)
	if e != api.OK {
		t.Fatalf("Cut(%d, %d): %v", n, width, e)
	}
	if got, e := Grow(largest, cut, width); got != n || e != api.OK {
		t.Fatalf("%d, cut to %d bytes behind %d, is %d, %v for one whose largest is %d", n, width, acked, got, e, largest)
	}
}

func TestWhatWasCutIsTheSameAgain(t *testing.T) {
	for n := range 200 {
		for acked := -1; acked < n; acked++ {
			for largest := acked; largest < n; largest++ {
				goesAndComes(t, n, acked, largest)
				top := highest - n
				goesAndComes(t, top, top-(n-acked), top-(n-largest))
			}
		}
	}
}

func TestWhatWasCutFarBehindIsTheSameAgain(t *testing.T) {
	ends := []int{0, 1, 37, 127, 128, 255, 256, 32768, 65535, 1 << 24, 1<<31 - 1, 1 << 31, 1<<32 + 5, 1 << 61, highest - 1, highest}
	for _, n := range ends {
		for _, half := range halves() {
			for _, distance := range []int{1, 2, half/2 + 1, half - 1, half, half/256 + 1} {
				acked := max(n-distance, -1)
				if acked == n {
					continue
				}
				for _, largest := range []int{acked, acked + 1, acked + distance/2, acked + distance/3, n - 2, n - 1} {
					if largest >= acked && largest < n {
						goesAndComes(t, n, acked, largest)
					}
				}
			}
		}
	}
}

// P3.4

func TestWhatGrowsHasItsLowBitsAndLiesNear(t *testing.T) {
	for _, largest := range largests() {
		for width := 1; width <= 4; width++ {
			half := halves()[width-1]
			many := 2 * half
			for _, cut := range []int{0, 1, 2, 77, half - 1, half, half + 1, many - 3, many - 2, many - 1} {
				n, e := Grow(largest, cut, width)
				if e != api.OK || n < 0 || n > highest || n%many != cut {
					t.Fatalf("Grow(%d, %d, %d) is %d, %v", largest, cut, width, n, e)
				}
				ahead := n - (largest + 1)
				if ahead > half && n-many >= 0 || ahead <= -half && n+many <= highest {
					t.Fatalf("Grow(%d, %d, %d) is %d, but another one lies nearer", largest, cut, width, n)
				}
				if again, e := Cut(n, width); again != cut || e != api.OK {
					t.Fatalf("Grow(%d, %d, %d) is %d, which is cut to %d, %v", largest, cut, width, n, again, e)
				}
			}
		}
	}
}
