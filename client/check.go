package client

import (
	"amnesia/api"
	"amnesia/ledger"
)

// check asks for a log that may be, and for two lengths of beginnings of it, of which the first is not above the second.
func check(log []api.Entry, from int, to int) api.Errno {
	if e := checkLog(log); e != api.OK {
		return e
	}
	if from < 0 || to > len(log) || from > to {
		return api.ErrCommit
	}
	return api.OK
}

func checkLog(log []api.Entry) api.Errno {
	if len(log) > api.MaxLog {
		return api.ErrFull
	}
	greatest := make(map[int]int) // of each client the number so far; 0, which no entry has, where there is none
	for _, entry := range log {
		if e := checkRequest(entry.Client, entry.Number); e != api.OK {
			return e
		}
		if e := ledger.Check(entry.Op); e != api.OK {
			return e
		}
		if entry.Number <= greatest[entry.Client] {
			return api.ErrTwice
		}
		greatest[entry.Client] = entry.Number
	}
	return api.OK
}

// checkRequest does not ask for MaxNumber: no int is above it.
func checkRequest(client int, number int) api.Errno {
	switch {
	case client < 0 || client >= api.MaxClients:
		return api.ErrClient
	case number < 1:
		return api.ErrNumber
	}
	return api.OK
}
