package candidate

import (
	"tannoy/api"
)

// weights has how much each kind counts in a priority.
var weights = [...]int{
	api.CaHost:   126,
	api.CaPeer:   110,
	api.CaServer: 100,
	api.CaRelay:  0,
}

// words has the word of each kind in a text.
var words = [...]string{
	api.CaHost:   "host",
	api.CaPeer:   "peer",
	api.CaServer: "server",
	api.CaRelay:  "relay",
}

func isKind(kind int) bool {
	return isFrom(api.CaHost, api.CaRelay, kind)
}

// sendsFromItself tells whether an agent sends for candidates of the kind from where they are reached.
func sendsFromItself(kind int) bool {
	return kind == api.CaHost || kind == api.CaRelay
}

// kindOf returns the kind of a word.
func kindOf(word string) (int, api.Errno) {
	for kind, known := range words {
		if isKind(kind) && known == word {
			return kind, api.OK
		}
	}
	return 0, api.ErrForm
}
