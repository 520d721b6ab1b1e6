package conn

import (
	"slices"
	"sort"

	"turnbuckle/api"
	"turnbuckle/spans"
)

// numbers are those of the datagrams that came, by spans that rise. There may be more of these than a set of layer 5 may have, as each loss leaves a gap, and none that came may ever be forgotten: such a set is cut out of them where it is asked.
type numbers []api.Span

// has tells whether a number came.
func (l numbers) has(n int) bool {
	from, to := l.near(n)
	return spans.Has(l[from:to], n)
}

// with is a number more, for which l is given up.
func (l numbers) with(n int) numbers {
	from, to := l.near(n)
	joined, _ := spans.Add(l[from:to], n, n)
	return slices.Replace(l, from, to, joined...)
}

// greatest is the greatest number.
func (l numbers) greatest() int {
	if len(l) == 0 {
		return none
	}
	return l[len(l)-1].To
}

// last are the last n spans.
func (l numbers) last(n int) []api.Span {
	return l[max(0, len(l)-n):]
}

// near is from where to where the spans stand that have a number or touch it, which are two at most.
func (l numbers) near(n int) (int, int) {
	from := sort.Search(len(l), func(i int) bool { return l[i].To >= n-1 })
	return from, min(from+2, len(l))
}
