// Package wrong: what is thrown by whoever looks at code and gives up.
package wrong

import "wicket/api"

// Found is what is wrong with code. Nothing else is thrown, so that Load can
// tell it from what it would not know.
type Found struct {
	Errno api.Errno
	At    int
}
