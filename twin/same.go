package twin

import (
	"bytes"
	"slices"

	"shuntyard/api"
)

// Same asks whether two replies are the same; a list without elements is, whether nil or empty.
func Same(a, b api.Reply) bool {
	return a.Code == b.Code &&
		slices.EqualFunc(a.Entries, b.Entries, sameEntry) &&
		sameHit(a.Default, b.Default) &&
		sameResult(a.R, b.R)
}

func sameEntry(a, b api.Entry) bool {
	return slices.Equal(a.Keys, b.Keys) &&
		slices.Equal(a.Masks, b.Masks) &&
		a.Len == b.Len &&
		a.Prio == b.Prio &&
		a.Act == b.Act &&
		slices.Equal(a.Args, b.Args)
}

func sameHit(a, b api.Hit) bool {
	return a.Act == b.Act && slices.Equal(a.Args, b.Args)
}

func sameResult(a, b api.Result) bool {
	return a.Port == b.Port && bytes.Equal(a.Bytes, b.Bytes)
}
