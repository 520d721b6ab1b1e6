package part

import (
	"testing"

	"turnbuckle/api"
)

// isNewer asks for the fields that are answered, from names and values that take turns.
func isNewer(t *testing.T, old, fresh []string, want ...string) {
	t.Helper()
	a := api.Response{Status: 200, Fields: named(old...), Body: []byte("old")}
	b := api.Response{Status: 304, Fields: named(fresh...)}
	c := api.Response{Status: 200, Fields: named(want...), Body: []byte("old")}
	if got := Newer(a, b); !isSame(got, c) {
		t.Errorf("Newer(%s, %s) = %s, want %s", tell(a), tell(b), tell(got), tell(c))
	}
}

func TestNewer(t *testing.T) { // P18.2
	isNewer(t, nil, nil)
	isNewer(t, []string{"a", "1"}, nil, "a", "1")
	isNewer(t, nil, []string{"a", "1"}, "a", "1")
	isNewer(t, []string{"a", "1"}, []string{"a", "2"}, "a", "2")
	isNewer(t, []string{"a", "1"}, []string{"a", "1"}, "a", "1")
	isNewer(t, []string{"a", "1"}, []string{"b", "2"}, "a", "1", "b", "2")
	isNewer(t, []string{"a", "1"}, []string{"a", ""}, "a", "")
	// what stays is ahead, what is new behind, in order
	isNewer(t, []string{"a", "1", "b", "2", "c", "3"}, []string{"b", "4"}, "a", "1", "c", "3", "b", "4")
	isNewer(t, []string{"a", "1", "b", "2", "c", "3"}, []string{"d", "5", "c", "4", "a", "6"}, "b", "2", "d", "5", "c", "4", "a", "6")
	isNewer(t, []string{"c", "3", "b", "2", "a", "1"}, []string{"x", "9", "d", "8"}, "c", "3", "b", "2", "a", "1", "x", "9", "d", "8")
	// several of a name
	isNewer(t, []string{"a", "1", "b", "2", "a", "3"}, []string{"a", "4"}, "b", "2", "a", "4")
	isNewer(t, []string{"a", "1", "b", "2"}, []string{"a", "3", "c", "4", "a", "5"}, "b", "2", "a", "3", "c", "4", "a", "5")
	isNewer(t, []string{"a", "1", "b", "2", "a", "1"}, nil, "a", "1", "b", "2", "a", "1")
	isNewer(t, []string{"a", "1", "a", "2"}, []string{"a", "2", "a", "2"}, "a", "2", "a", "2")
	// names in other letters are other names
	isNewer(t, []string{"a", "1", "A", "2"}, []string{"A", "3"}, "a", "1", "A", "3")
	isNewer(t, []string{"", "1", " ", "2"}, []string{"", "3"}, " ", "2", "", "3")
	// a 304 as they come
	isNewer(t, []string{"content-type", "t", "etag", `"a"`, "date", earlier, "content-length", "3", "cache-control", "max-age=1"}, []string{"date", later, "cache-control", "max-age=2", "etag", `"a"`},
		"content-type", "t", "content-length", "3", "date", later, "cache-control", "max-age=2", "etag", `"a"`)
}

func TestLeftAside(t *testing.T) { // P18.2
	for _, name := range []string{"content-length", "content-range", "connection", "transfer-encoding"} {
		isNewer(t, []string{name, "1"}, nil, name, "1")
		isNewer(t, nil, []string{name, "2"})
		isNewer(t, []string{name, "1"}, []string{name, "2"}, name, "1")
		isNewer(t, []string{"a", "1"}, []string{name, "2"}, "a", "1")
		isNewer(t, []string{"a", "1", name, "2", "b", "3"}, []string{"b", "4", name, "5", "c", "6"}, "a", "1", name, "2", "b", "4", "c", "6")
		isNewer(t, []string{name, "1", "a", "2", name, "3"}, []string{name, "4", name, "5", "a", "6", name, "7"}, name, "1", name, "3", "a", "6")
	}
	isNewer(t, []string{"content-length", "1", "content-range", "2", "connection", "3", "transfer-encoding", "4"}, []string{"transfer-encoding", "5", "connection", "6", "content-range", "7", "content-length", "8"},
		"content-length", "1", "content-range", "2", "connection", "3", "transfer-encoding", "4")
	for _, name := range []string{"Content-Length", "content-lengths", "content_length", "content-type", "content-encoding", "keep-alive", "Connection", "trailer", "transfer-encoding ", "upgrade", "te", "age", "set-cookie", "range"} {
		isNewer(t, []string{name, "1", "a", "2"}, []string{name, "3"}, "a", "2", name, "3")
	}
}

func TestStatusAndBodyOfNewer(t *testing.T) { // P18.2
	for _, old := range []api.Response{{}, {Status: 200, Body: []byte("old")}, {Status: 404, Body: []byte{0}}, {Status: 304}, {Status: -1, Body: []byte("x")}} {
		for _, fresh := range []api.Response{{}, {Status: 304}, {Status: 200, Body: []byte("fresh")}, {Status: 500, Body: []byte("y")}} {
			if got := Newer(old, fresh); !isSame(got, old) {
				t.Errorf("Newer(%s, %s) = %s", tell(old), tell(fresh), tell(got))
			}
			fresh.Fields = named("a", "1")
			want := old
			want.Fields = fresh.Fields
			if got := Newer(old, fresh); !isSame(got, want) {
				t.Errorf("Newer(%s, %s) = %s", tell(old), tell(fresh), tell(got))
			}
		}
	}
}
