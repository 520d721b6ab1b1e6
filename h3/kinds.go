package h3

import (
	"strconv"

	"turnbuckle/api"
)

// The names of the fields that heads have ahead of all others.
const (
	methodName = ":method"
	schemeName = ":scheme"
	hostName   = ":authority"
	pathName   = ":path"
	statusName = ":status"
)

// request is a message that asks.
type request struct {
	common
	method, scheme, host, path string
}

// response is a message that answers.
type response struct {
	common
	status int
}

func asRequest(r api.Request) *request {
	return &request{common: common{r.Fields, r.Body}, method: r.Method, scheme: r.Scheme, host: r.Host, path: r.Path}
}

func asResponse(r api.Response) *response {
	return &response{common: common{r.Fields, r.Body}, status: r.Status}
}

// own are the fields that it has ahead of all others.
func (r *request) own() []api.Field {
	return []api.Field{{Name: methodName, Value: r.method}, {Name: schemeName, Value: r.scheme}, {Name: hostName, Value: r.host}, {Name: pathName, Value: r.path}}
}

// rightOwn tells whether these may be.
func (r *request) rightOwn() bool {
	return rightMethod(r.method) && rightScheme(r.scheme) && rightHost(r.host) && rightPath(r.path)
}

// take takes what a head tells, if that is one of a request.
func (r *request) take(head []api.Field) bool {
	values, ok := r.split(head, methodName, schemeName, hostName, pathName)
	if !ok {
		return false
	}
	r.method, r.scheme, r.host, r.path = values[0], values[1], values[2], values[3]
	return true
}

// own is the field that it has ahead of all others.
func (r *response) own() []api.Field {
	return []api.Field{{Name: statusName, Value: strconv.Itoa(r.status)}}
}

// rightOwn tells whether it may be.
func (r *response) rightOwn() bool {
	return r.status >= 200 && r.status <= 599
}

// take takes what a head tells, if that is one of a response.
func (r *response) take(head []api.Field) bool {
	values, ok := r.split(head, statusName)
	if !ok {
		return false
	}
	status, err := strconv.Atoi(values[0])
	r.status = status
	// A sign, or a needless 0, is read as a number, too.
	return err == nil && strconv.Itoa(status) == values[0]
}
