package chorus

import "chorus/api"

// What a key names, by its first byte.
const (
	counter  = 'c'
	register = 'r'
	set      = 's'
)

// kindOf tells what a key names; 0, if it is no key.
func kindOf(key string) byte {
	if len(key) < 1 || len(key) > api.MaxKey {
		return 0
	}
	switch key[0] {
	case counter, register, set:
		return key[0]
	}
	return 0
}
