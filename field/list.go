package field

import (
	"strings"
)

// blanks are the bytes that count for nothing at the ends of what stands between commas.
const blanks = " \t"

// anyElement hands the elements of values, in order, to what asks of them, until it says yes, and tells whether it did.
func anyElement(values []string, asks func(element string) bool) bool {
	for _, value := range values {
		for value != "" {
			end := elementEnd(value)
			element := strings.Trim(value[:end], blanks)
			if element != "" && asks(element) {
				return true
			}
			value = value[min(end+1, len(value)):]
		}
	}
	return false
}

// elementEnd is where the first comma stands that is not within a quoted string, or how long the value is.
func elementEnd(value string) int {
	at := 0
	for at < len(value) && value[at] != ',' {
		if value[at] == '"' {
			at = quotedEnd(value, at)
		} else {
			at++
		}
	}
	return at
}

// quotedEnd is where the quoted string that begins at from is over.
func quotedEnd(value string, from int) int {
	for at := from + 1; at < len(value); at++ {
		switch value[at] {
		case '\\':
			at++ // the byte behind it ends nothing
		case '"':
			return at + 1
		}
	}
	return len(value)
}

// small is a text with A to Z as a to z. (The library's way turns other letters, too, and bytes that are no letters.)
func small(s string) string {
	b := []byte(s)
	for i, c := range b {
		if c >= 'A' && c <= 'Z' {
			b[i] = c - 'A' + 'a'
		}
	}
	return string(b)
}

// areDigits tells whether a text is digits alone, at least one.
func areDigits(s string) bool {
	for i := range len(s) {
		if s[i] < '0' || s[i] > '9' {
			return false
		}
	}
	return s != ""
}
