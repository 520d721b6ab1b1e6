package h3

import (
	"strings"

	"turnbuckle/api"
)

// The bytes that names and the like are made of.
const (
	smallLetters   = "abcdefghijklmnopqrstuvwxyz"
	capitalLetters = "ABCDEFGHIJKLMNOPQRSTUVWXYZ"
	digits         = "0123456789"
	nameBytes      = smallLetters + digits + "!#$%&'*+-.^_|~"
	methodBytes    = nameBytes + capitalLetters
	hostBytes      = smallLetters + digits + "-.:[]_"
	blanks         = " \t"
)

// How many bytes parts of a request have at most.
const (
	mostOfMethod = 64
	mostOfHost   = 255
	mostOfPath   = 512
)

func rightName(name string) bool {
	return isOf(name, nameBytes, api.MaxName)
}

func rightMethod(method string) bool {
	return isOf(method, methodBytes, mostOfMethod)
}

func rightScheme(scheme string) bool {
	return scheme == "http" || scheme == "https"
}

func rightHost(host string) bool {
	return isOf(host, hostBytes, mostOfHost)
}

func rightPath(path string) bool {
	return len(path) <= mostOfPath && strings.HasPrefix(path, "/") && isSeen(path, "")
}

// rightValue tells whether a field's value may be.
func rightValue(value string) bool {
	return len(value) <= api.MaxValue && strings.Trim(value, blanks) == value && isSeen(value, blanks)
}

// isOf tells whether a text has 1 to so many bytes, all of them among some.
func isOf(text, some string, most int) bool {
	if len(text) < 1 || len(text) > most {
		return false
	}
	for i := range len(text) {
		if strings.IndexByte(some, text[i]) < 0 {
			return false
		}
	}
	return true
}

// isSeen tells whether all bytes of a text are from 33 to 126, or among some others.
func isSeen(text, others string) bool {
	for i := range len(text) {
		if (text[i] < 33 || text[i] > 126) && strings.IndexByte(others, text[i]) < 0 {
			return false
		}
	}
	return true
}
