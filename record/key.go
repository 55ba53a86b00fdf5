package record

import "chorus/api"

// Thing is what a key names, by its first byte.
type Thing byte

const (
	Nothing  Thing = 0 // it is no key
	Counter  Thing = 'c'
	Register Thing = 'r'
	Set      Thing = 's'
)

// ThingOf tells what a key names.
func ThingOf(key string) Thing {
	if len(key) < 1 || len(key) > api.MaxKey {
		return Nothing
	}
	switch thing := Thing(key[0]); thing {
	case Counter, Register, Set:
		return thing
	}
	return Nothing
}
