// Package arrays holds the arrays of a run.
package arrays

import (
	"slices"

	"glean/value"
)

// A Key is an element's: the number of its array and its key there.
type Key struct {
	Array int
	Text  string
}

// An element knows its place in its array's list of keys, so that it can be
// deleted without a search.
type element struct {
	value value.Value
	place int
}

// Arrays are numbered from 0 on; the elements of all of them lie in one map.
type Arrays struct {
	elements map[Key]element
	keys     [][]string // of each array, in any order
}

// New makes so many empty arrays.
func New(count int) *Arrays {
	return &Arrays{elements: make(map[Key]element), keys: make([][]string, count)}
}

// Count answers how many arrays there are.
func (a *Arrays) Count() int { return len(a.keys) }

// Add makes one array more and answers its number.
func (a *Arrays) Add() int {
	a.keys = append(a.keys, nil)
	return len(a.keys) - 1
}

// Keep keeps the first arrays, so many, and gives up the others.
func (a *Arrays) Keep(count int) {
	for array := count; array < len(a.keys); array++ {
		a.Empty(array)
	}
	a.keys = a.keys[:count]
}

// Has tells whether an element is there.
func (a *Arrays) Has(key Key) bool {
	_, ok := a.elements[key]
	return ok
}

// Take answers an element's value; from then on the element is there.
func (a *Arrays) Take(key Key) value.Value {
	e, ok := a.elements[key]
	if !ok {
		a.Store(key, value.Value{})
	}
	return e.value
}

func (a *Arrays) Store(key Key, v value.Value) {
	e, ok := a.elements[key]
	if !ok {
		e.place = len(a.keys[key.Array])
		a.keys[key.Array] = append(a.keys[key.Array], key.Text)
	}
	e.value = v
	a.elements[key] = e
}

// Delete takes an element away, if it is there; the last key of the list
// comes to its place.
func (a *Arrays) Delete(key Key) {
	e, ok := a.elements[key]
	if !ok {
		return
	}
	keys := a.keys[key.Array]
	last := len(keys) - 1
	moved := Key{Array: key.Array, Text: keys[last]}
	keys[e.place] = moved.Text
	a.elements[moved] = element{value: a.elements[moved].value, place: e.place}
	a.keys[key.Array] = keys[:last]
	delete(a.elements, key)
}

// Empty takes all elements of an array away.
func (a *Arrays) Empty(array int) {
	for _, text := range a.keys[array] {
		delete(a.elements, Key{Array: array, Text: text})
	}
	a.keys[array] = nil
}

// Keys answers the keys of an array, in rising order.
func (a *Arrays) Keys(array int) []string {
	keys := slices.Clone(a.keys[array])
	slices.Sort(keys)
	return keys
}
