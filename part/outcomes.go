package part

import (
	"slices"

	"turnbuckle/api"
	"turnbuckle/field"
)

// The status of what comes.
const (
	statusWhole       = 200
	statusPart        = 206
	statusNotModified = 304
	statusFailed      = 412
	statusNoPart      = 416
)

// The fields that tell of a body.
const (
	lengthName = "content-length"
	rangeName  = "content-range"
)

// itself is a response as it is.
func itself(s api.Response) api.Response {
	return api.Response{Status: s.Status, Fields: slices.Clone(s.Fields), Body: slices.Clone(s.Body)}
}

// failed is what comes, if the response is not the one that was asked for.
func failed() api.Response {
	return api.Response{Status: statusFailed}
}

// notModified is what comes, if the client has the response already.
func notModified(s api.Response) api.Response {
	return api.Response{Status: statusNotModified, Fields: fieldsWhere(s.Fields, isOfNotModified)}
}

// isOfNotModified tells whether a field of this name is told again to one who has the response already.
func isOfNotModified(name string) bool {
	switch name {
	case "cache-control", "content-location", "date", "etag", "expires", "vary", "age", "last-modified":
		return true
	}
	return false
}

// ranged is what a range makes of a response, and whether it makes something of it.
func ranged(s api.Response, asked string) (api.Response, bool) {
	spans, e := field.Ranges(asked, len(s.Body))
	switch {
	case e == api.ErrNone:
		return noPart(s), true
	case len(spans) == 1:
		return partOf(s, spans[0]), true
	}
	return api.Response{}, false
}

// noPart is what comes, if the body has nothing of what was asked for.
func noPart(s api.Response) api.Response {
	return api.Response{Status: statusNoPart, Fields: []api.Field{{Name: rangeName, Value: "bytes */" + Number(len(s.Body))}}}
}

// partOf is what comes, if a part of the body was asked for.
func partOf(s api.Response, part api.Span) api.Response {
	body := slices.Clone(s.Body[part.From : part.To+1])
	fields := fieldsWhere(s.Fields, func(name string) bool { return name != lengthName && name != rangeName })
	fields = append(fields,
		api.Field{Name: rangeName, Value: "bytes " + Number(part.From) + "-" + Number(part.To) + "/" + Number(len(s.Body))},
		api.Field{Name: lengthName, Value: Number(len(body))})
	return api.Response{Status: statusPart, Fields: fields, Body: body}
}
