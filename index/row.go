package index

import (
	"cmp"
	"slices"
	"sort"

	"warrantor/api"
)

// pair is what an entry has of a field, and its fingerprint.
type pair[K cmp.Ordered] struct {
	key    K
	finger uint64
}

// row is all entries' pairs of a field, in order.
type row[K cmp.Ordered] struct{ l []pair[K] }

// span is the places of a row from one on to ahead of another one.
type span struct{ from, to int }

// at tells where a pair stands, or would.
func (r *row[K]) at(key K, finger uint64) (int, bool) {
	return slices.BinarySearchFunc(r.l, pair[K]{key, finger}, func(a, b pair[K]) int {
		return cmp.Or(cmp.Compare(a.key, b.key), cmp.Compare(a.finger, b.finger))
	})
}

// put puts in a pair that is not there.
func (r *row[K]) put(key K, finger uint64) {
	i, _ := r.at(key, finger)
	r.l = slices.Insert(r.l, i, pair[K]{key, finger})
}

// drop takes out a pair that is there.
func (r *row[K]) drop(key K, finger uint64) {
	if i, ok := r.at(key, finger); ok {
		r.l = slices.Delete(r.l, i, i+1)
	}
}

// first tells the first place from one on where something holds of the key, as it does of all behind it.
func (r *row[K]) first(from int, holds func(key K) bool) int {
	return from + sort.Search(len(r.l)-from, func(i int) bool { return holds(r.l[from+i].key) })
}

// begin tells the first place whose key is not below this one.
func (r *row[K]) begin(key K) int { return r.first(0, func(k K) bool { return k >= key }) }

// end tells the first place whose key is above this one.
func (r *row[K]) end(key K) int { return r.first(0, func(k K) bool { return k > key }) }

// span tells where the keys stand that are this one, below it, or above it.
func (r *row[K]) span(rel int, key K) span {
	switch rel {
	case api.RelBelow:
		return span{0, r.begin(key)}
	case api.RelAbove:
		return span{r.end(key), len(r.l)}
	default:
		return span{r.begin(key), r.end(key)}
	}
}

// fingers tells the fingerprints of a span.
func (r *row[K]) fingers(s span) []uint64 {
	var l []uint64
	for _, p := range r.l[s.from:s.to] {
		l = append(l, p.finger)
	}
	return l
}
