package model

import (
	"cmp"
	"slices"
)

// kept: values, each under a key of its own, in the rising order of the keys.
type kept[K cmp.Ordered, V comparable] struct{ pairs []pair[K, V] }

type pair[K cmp.Ordered, V comparable] struct {
	key   K
	value V
}

// place: where the key stands, or would stand; and whether it does.
func (k *kept[K, V]) place(key K) (int, bool) {
	return slices.BinarySearchFunc(k.pairs, key, func(p pair[K, V], key K) int { return cmp.Compare(p.key, key) })
}

// at: the value under a key. False, if there is none.
func (k *kept[K, V]) at(key K) (V, bool) {
	i, is := k.place(key)
	if !is {
		var none V
		return none, false
	}
	return k.pairs[i].value, true
}

func (k *kept[K, V]) has(key K) bool {
	_, is := k.place(key)
	return is
}

// put: under a key that isn't there yet.
func (k *kept[K, V]) put(key K, value V) {
	i, _ := k.place(key)
	k.pairs = slices.Insert(k.pairs, i, pair[K, V]{key, value})
}

// cut: a key that is there.
func (k *kept[K, V]) cut(key K) {
	i, _ := k.place(key)
	k.pairs = slices.Delete(k.pairs, i, i+1)
}

func (k *kept[K, V]) same(o kept[K, V]) bool { return slices.Equal(k.pairs, o.pairs) }
