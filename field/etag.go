package field

import (
	"strings"

	"turnbuckle/api"
)

// Tag is a tag.
func Tag(s string) (string, bool, bool) {
	text, weak := strings.CutPrefix(s, "W/")
	if len(s) > api.MaxValue || !isTagText(text) {
		return "", false, false
	}
	return text, weak, true
}

// isTagText tells whether it is a quote, bytes that a tag may have, and a quote.
func isTagText(text string) bool {
	if len(text) < 2 || text[0] != '"' || text[len(text)-1] != '"' {
		return false
	}
	for i := 1; i < len(text)-1; i++ {
		if text[i] < 33 || text[i] > 126 || text[i] == '"' {
			return false
		}
	}
	return true
}

// Match tells whether a tag is among values.
func Match(values []string, tag string, weak bool) bool {
	text, isWeak, isTag := Tag(tag)
	if !isTag {
		return false
	}
	return anyElement(values, func(element string) bool {
		if element == "*" {
			return true
		}
		otherText, otherIsWeak, otherIsTag := Tag(element)
		return otherIsTag && otherText == text && (weak || !isWeak && !otherIsWeak)
	})
}
