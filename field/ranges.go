package field

import (
	"strconv"
	"strings"

	"turnbuckle/api"
)

const (
	rangeUnit  = "bytes="
	mostRanges = 16
	mostDigits = 18
	mostLength = 1 << 40
)

// rangePart is one of the parts of a range: A-B, A- or -N.
type rangePart struct {
	from, to       int
	hasFrom, hasTo bool
}

// Ranges are the spans of a range.
func Ranges(s string, length int) ([]api.Span, api.Errno) {
	parts, ok := rangeParts(s)
	if !ok || length < 0 || length > mostLength {
		return nil, api.ErrForm
	}
	if len(parts) > mostRanges {
		return nil, api.ErrMany
	}
	var spans []api.Span
	for _, part := range parts {
		if span := part.within(length); span.From <= span.To {
			spans = append(spans, span)
		}
	}
	if len(spans) == 0 {
		return nil, api.ErrNone
	}
	return spans, api.OK
}

// rangeParts are the parts of a range, and whether it is one.
func rangeParts(s string) ([]rangePart, bool) {
	if len(s) < len(rangeUnit) || small(s[:len(rangeUnit)]) != rangeUnit {
		return nil, false
	}
	var parts []rangePart
	for text := range strings.SplitSeq(s[len(rangeUnit):], ",") {
		part, ok := rangePartOf(strings.Trim(text, blanks))
		if !ok {
			return nil, false
		}
		parts = append(parts, part)
	}
	return parts, true
}

// rangePartOf is the part that a text is, and whether it is one.
func rangePartOf(text string) (rangePart, bool) {
	from, to, _ := strings.Cut(text, "-")
	p := rangePart{hasFrom: from != "", hasTo: to != ""}
	var fromOk, toOk bool
	p.from, fromOk = rangeNumber(from)
	p.to, toOk = rangeNumber(to)
	switch {
	case p.hasFrom && p.hasTo:
		return p, fromOk && toOk && p.from <= p.to
	case p.hasFrom:
		return p, fromOk && len(text) > len(from) // there is a -
	default:
		return p, toOk
	}
}

// rangeNumber is a number of a range, and whether it is one.
func rangeNumber(digits string) (int, bool) {
	if !areDigits(digits) || len(digits) > mostDigits {
		return 0, false
	}
	n, err := strconv.Atoi(digits)
	return n, err == nil
}

// within is the part's span of a content of so many bytes: one without bytes ends ahead of where it begins.
func (p rangePart) within(length int) api.Span {
	last := length - 1
	switch {
	case !p.hasFrom:
		return api.Span{From: max(length-p.to, 0), To: last}
	case !p.hasTo:
		return api.Span{From: p.from, To: last}
	default:
		return api.Span{From: p.from, To: min(p.to, last)}
	}
}
