package walk

import (
	"slices"

	"nurserypy/rules"
)

// A dict has its keys in the order in which they came, and their values at the same places.
type dict struct {
	keys, values []any
	places       map[any]int
	id           int
}

// isKey: None, bools, ints and strs are keys; as such they are told apart by their types, too.
func isKey(v any) bool {
	switch v.(type) {
	case nil, bool, int64, string:
		return true
	}
	return false
}

// find: the place of a key, if it is there.
func (d *dict) find(key any) (int, bool) {
	if !isKey(key) {
		panic(raised{rules.TypeError})
	}
	n, ok := d.places[key]
	return n, ok
}

// must: the place of a key that has to be there.
func (d *dict) must(key any) int {
	n, ok := d.find(key)
	if !ok {
		panic(raised{rules.KeyError})
	}
	return n
}

func (d *dict) put(key, value any) {
	if n, ok := d.find(key); ok {
		d.values[n] = value
		return
	}
	ask(rules.Fits(len(d.keys) + 1))
	if d.places == nil {
		d.places = map[any]int{}
	}
	d.places[key] = len(d.keys)
	d.keys = append(d.keys, key)
	d.values = append(d.values, value)
}

func (d *dict) remove(key any) {
	n := d.must(key)
	delete(d.places, key)
	d.keys = slices.Delete(d.keys, n, n+1)
	d.values = slices.Delete(d.values, n, n+1)
	for i, later := range d.keys[n:] {
		d.places[later] = n + i
	}
}
