package part

import (
	"bytes"
	"math/rand"
	"regexp"
	"slices"
	"strconv"
	"strings"
	"testing"

	"turnbuckle/api"
)

// pick is one of some texts.
func pick(row *rand.Rand, texts ...string) string {
	return texts[row.Intn(len(texts))]
}

// drawnTags are values of lists of tags.
func drawnTags(row *rand.Rand) string {
	tags := []string{`"a"`, `"a"`, `W/"a"`, `"b"`, `W/"b"`, "*", "x", "", `"a,b"`, `"*"`, `"`}
	var l []string
	for range 1 + row.Intn(3) {
		l = append(l, pick(row, tags...))
	}
	return strings.Join(l, pick(row, ",", ", ", " ,\t"))
}

func drawnDate(row *rand.Rand) string {
	return pick(row, earlier, same, later, earlier, same, later, "x", "", on1970, lastOfAll)
}

func drawnNumber(row *rand.Rand) string {
	return pick(row, "0", "1", "2", "3", "4", "5", "9", "10", "11", "99", "00", "")
}

func drawnRange(row *rand.Rand) string {
	return pick(row, "bytes=", "bytes=", "bytes=", "Bytes=", "bytes= ", "byte=") + drawnNumber(row) + "-" + drawnNumber(row) + pick(row, "", "", "", " ", "x")
}

// drawnRequest is one that asks with some conditions, now and then by another method.
func drawnRequest(row *rand.Rand) api.Request {
	q := request(pick(row, "GET", "GET", "GET", "GET", "HEAD", "HEAD", "POST", "get"))
	q.Body = []byte(pick(row, "", "asked"))
	for range row.Intn(5) {
		switch row.Intn(9) {
		case 0:
			q.Fields = append(q.Fields, header("if-match", drawnTags(row)))
		case 1:
			q.Fields = append(q.Fields, header("if-none-match", drawnTags(row)))
		case 2:
			q.Fields = append(q.Fields, header("if-unmodified-since", drawnDate(row)))
		case 3:
			q.Fields = append(q.Fields, header("if-modified-since", drawnDate(row)))
		case 4:
			q.Fields = append(q.Fields, header("if-range", pick(row, drawnTags(row), drawnDate(row))))
		case 5:
			q.Fields = append(q.Fields, header(pick(row, "x", "Range", "If-Match", "etag"), "v"))
		default:
			q.Fields = append(q.Fields, header("range", drawnRange(row)))
		}
	}
	return q
}

// drawnResponse is mostly a whole one.
func drawnResponse(row *rand.Rand) api.Response {
	s := api.Response{Status: 200}
	if row.Intn(8) == 0 {
		s.Status = []int{206, 304, 404, 0}[row.Intn(4)]
	}
	for range row.Intn(6) {
		switch row.Intn(4) {
		case 0:
			s.Fields = append(s.Fields, header("etag", pick(row, `"a"`, `"a"`, `W/"a"`, `"b"`, `"a,b"`, "x", "*", "")))
		case 1:
			s.Fields = append(s.Fields, header("last-modified", drawnDate(row)))
		default:
			name := pick(row, "cache-control", "content-location", "date", "expires", "vary", "age", "content-length", "content-range", "connection", "transfer-encoding", "x", "Vary", "content-type")
			s.Fields = append(s.Fields, header(name, pick(row, "1", "2", "v")))
		}
	}
	s.Body = make([]byte, row.Intn(12))
	row.Read(s.Body)
	return s
}

func TestOfRows(t *testing.T) { // P18.1
	row := rand.New(rand.NewSource(1))
	seen := map[int]int{}
	for range 300000 {
		q, s := drawnRequest(row), drawnResponse(row)
		want, wantE := plainOf(q, s)
		got, e := Of(q, s)
		if e != wantE || !isSame(got, want) {
			t.Fatalf("%s %q of %s: %v, %s; want %v, %s", q.Method, q.Fields, tell(s), e, tell(got), wantE, tell(want))
		}
		seen[got.Status]++
	}
	for _, status := range []int{0, 200, 206, 304, 404, 412, 416} {
		if seen[status] < 2000 {
			t.Errorf("only %d rows have the status %d", seen[status], status)
		}
	}
}

// TestPartsOfRows holds parts against what they tell.
func TestPartsOfRows(t *testing.T) { // P18.3
	row := rand.New(rand.NewSource(2))
	told := regexp.MustCompile(`\Abytes (0|[1-9][0-9]*)-(0|[1-9][0-9]*)/([1-9][0-9]*)\z`)
	parts := 0
	for range 200000 {
		q, s := drawnRequest(row), drawnResponse(row)
		s.Status = 200
		q.Fields = append(q.Fields, header("range", drawnRange(row)))
		got, _ := Of(q, s)
		if got.Status != 206 {
			continue
		}
		parts++
		ranges, lengths := plainAll(got.Fields, "content-range"), plainAll(got.Fields, "content-length")
		if len(ranges) != 1 || len(lengths) != 1 || lengths[0] != strconv.Itoa(len(got.Body)) {
			t.Fatalf("%q of %s: %s", q.Fields, tell(s), tell(got))
		}
		m := told.FindStringSubmatch(ranges[0])
		if m == nil {
			t.Fatalf("%q of %s: %s", q.Fields, tell(s), tell(got))
		}
		from, _ := strconv.Atoi(m[1])
		to, _ := strconv.Atoi(m[2])
		if m[3] != strconv.Itoa(len(s.Body)) || from > to || to >= len(s.Body) || !bytes.Equal(got.Body, s.Body[from:to+1]) {
			t.Fatalf("%q of %s: %s", q.Fields, tell(s), tell(got))
		}
	}
	if parts < 5000 {
		t.Errorf("only %d rows have a part", parts)
	}
}

// TestPlainRows asks without conditions and ranges.
func TestPlainRows(t *testing.T) { // P18.4
	row := rand.New(rand.NewSource(3))
	for range 100000 {
		q, s := drawnRequest(row), drawnResponse(row)
		q.Fields = slices.DeleteFunc(q.Fields, func(f api.Field) bool {
			return f.Name == "range" || strings.HasPrefix(f.Name, "if-") && f.Name != "if-range"
		})
		q.Method = pick(row, "GET", "HEAD")
		want := s
		if q.Method == "HEAD" {
			want = bodiless(s)
		}
		comes(t, q, s, want)
		if t.Failed() {
			return
		}
	}
}

// drawnFields are some of few names, so that both sides have the same ones.
func drawnFields(row *rand.Rand) []api.Field {
	var l []api.Field
	for range row.Intn(8) {
		l = append(l, header(pick(row, "a", "b", "c", "A", "etag", "content-length", "content-range", "connection", "transfer-encoding"), pick(row, "1", "2", "3", "")))
	}
	return l
}

func TestNewerOfRows(t *testing.T) { // P18.2, P18.5
	row := rand.New(rand.NewSource(4))
	for range 200000 {
		old := api.Response{Status: 200, Fields: drawnFields(row), Body: []byte(pick(row, "", "old"))}
		fresh := api.Response{Status: 304, Fields: drawnFields(row), Body: []byte(pick(row, "", "", "fresh"))}
		once, want := Newer(old, fresh), plainNewer(old, fresh)
		if !isSame(once, want) {
			t.Fatalf("Newer(%s, %s) = %s, want %s", tell(old), tell(fresh), tell(once), tell(want))
		}
		if twice := Newer(once, fresh); !isSame(twice, once) {
			t.Fatalf("Newer(%s, %s) = %s", tell(once), tell(fresh), tell(twice))
		}
	}
}

// TestNewerOfOutcomes takes what comes of a whole response as the fresh one.
func TestNewerOfOutcomes(t *testing.T) { // P18.2, P18.5
	row := rand.New(rand.NewSource(5))
	for range 50000 {
		old, fresh := drawnResponse(row), drawnResponse(row)
		fresh.Status = 200
		fresh, _ = Of(request("GET", "if-none-match", `"a", *`), fresh)
		if fresh.Status != 304 {
			t.Fatalf("what comes is %s", tell(fresh))
		}
		once := Newer(old, fresh)
		if want := plainNewer(old, fresh); !isSame(once, want) {
			t.Fatalf("Newer(%s, %s) = %s, want %s", tell(old), tell(fresh), tell(once), tell(want))
		}
		if twice := Newer(once, fresh); !isSame(twice, once) {
			t.Fatalf("Newer(%s, %s) = %s", tell(once), tell(fresh), tell(twice))
		}
	}
}

// roomy is a response with the same fields and bytes, and others behind them in the same memory.
func roomy(s api.Response) (here api.Response, fields []api.Field, body []byte) {
	fields = append(slices.Clone(s.Fields), header("behind", "1"), header("behind", "2"), header("behind", "3"))
	body = append(slices.Clone(s.Body), "behind"...)
	return api.Response{Status: s.Status, Fields: fields[:len(s.Fields)], Body: body[:len(s.Body)]}, fields, body
}

// writeOver writes into all that a response has, and into the room behind it.
func writeOver(s api.Response) {
	fields, body := s.Fields[:cap(s.Fields)], s.Body[:cap(s.Body)]
	for i := range fields {
		fields[i] = header("written", "over")
	}
	for i := range body {
		body[i]++
	}
}

func TestNothingIsTurned(t *testing.T) { // R3, R4
	row := rand.New(rand.NewSource(6))
	for range 30000 {
		s, fields, body := roomy(drawnResponse(row))
		fresh, freshFields, freshBody := roomy(drawnResponse(row))
		q := drawnRequest(row)
		asked := append(slices.Clone(q.Fields), header("behind", "1"))
		q.Fields = asked[:len(asked)-1]
		keptAsked, keptFields, keptBody := slices.Clone(asked), slices.Clone(fields), slices.Clone(body)
		keptFreshFields, keptFreshBody, keptQBody := slices.Clone(freshFields), slices.Clone(freshBody), slices.Clone(q.Body)
		came, e := Of(q, s)
		again, _ := Of(q, s)
		newer, newerAgain := Newer(s, fresh), Newer(s, fresh)
		if !isSame(came, again) || !isSame(newer, newerAgain) {
			t.Fatalf("asked twice: %s and %s, %s and %s", tell(came), tell(again), tell(newer), tell(newerAgain))
		}
		writeOver(came)
		writeOver(newer)
		if !slices.Equal(asked, keptAsked) || !bytes.Equal(q.Body, keptQBody) || !slices.Equal(fields, keptFields) || !bytes.Equal(body, keptBody) ||
			!slices.Equal(freshFields, keptFreshFields) || !bytes.Equal(freshBody, keptFreshBody) {
			t.Fatalf("%s %q, %s or %s was turned", q.Method, q.Fields, tell(s), tell(fresh))
		}
		if third, thirdE := Of(q, s); thirdE != e || !isSame(third, again) {
			t.Fatalf("when an answer was written over: %s and %s", tell(again), tell(third))
		}
		if third := Newer(s, fresh); !isSame(third, newerAgain) {
			t.Fatalf("when an answer was written over: %s and %s", tell(newerAgain), tell(third))
		}
	}
}
