package field

import (
	"strings"
	"testing"

	"turnbuckle/api"
)

func TestSeconds(t *testing.T) { // P17.1
	for _, k := range []struct {
		text string
		want int
	}{
		{"0", 0}, {"1", 1}, {"9", 9}, {"10", 10}, {"60", 60}, {"31536000", 31536000},
		{"00", 0}, {"01", 1}, {"007", 7}, {strings.Repeat("0", 100), 0}, {strings.Repeat("0", 100) + "60", 60},
		{"2147483647", most - 1}, {"2147483648", most}, {"2147483649", most}, {"2147483657", most}, {"3000000000", most}, {"4294967296", most}, {"4294967297", most}, {"9999999999", most},
		{"02147483647", most - 1}, {"002147483649", most}, {strings.Repeat("0", 100) + "2147483647", most - 1},
		{"21474836480", most}, {"1099511627776", most},
		{"9223372036854775807", most}, {"9223372036854775808", most}, {"18446744073709551615", most}, {"18446744073709551616", most}, {"18446744073709551617", most}, {"18446744073709551676", most},
		{"1" + strings.Repeat("0", 18), most}, {"1" + strings.Repeat("0", 19), most}, {"1" + strings.Repeat("0", 29), most},
		{"340282366920938463463374607431768211456", most}, {strings.Repeat("9", 1000), most}, {"1" + strings.Repeat("0", 10000), most},
	} {
		if got, ok := Seconds(k.text); got != k.want || !ok {
			t.Errorf("Seconds(%q) = %d, %v; want %d", k.text, got, ok, k.want)
		}
	}
	for d := range 10 {
		if got, ok := Seconds(string(rune('0' + d))); got != d || !ok {
			t.Errorf("Seconds of the digit %d = %d, %v", d, got, ok)
		}
	}
}

func TestNoSeconds(t *testing.T) { // P17.1
	texts := []string{"", " ", "-", "+", "-1", "+1", "-0", " 1", "1 ", "\t1", "1\t", "1 2", "1.0", "1.", ".1", "1e3", "0x10", "1_000", "ten", `"1"`, "1,", "1\n", "1\x00",
		"\u0661", "\uff11", "12a4567890123456789012345678901234567890", strings.Repeat("9", 100) + "a", "a" + strings.Repeat("9", 100), "2147483648a", "2147483648-"}
	for c := range 256 {
		if c < '0' || c > '9' {
			b := string([]byte{byte(c)})
			texts = append(texts, b, "1"+b, b+"1", "1"+b+"1", "99999999999"+b)
		}
	}
	for _, text := range texts {
		if got, ok := Seconds(text); got != 0 || ok {
			t.Errorf("Seconds(%q) = %d, %v; want none", text, got, ok)
		}
	}
}

// flags are the directives that are there or not.
func flags() map[string]func(*Control) {
	return map[string]func(*Control){
		"no-store":         func(c *Control) { c.NoStore = true },
		"no-cache":         func(c *Control) { c.NoCache = true },
		"must-revalidate":  func(c *Control) { c.MustRevalidate = true },
		"proxy-revalidate": func(c *Control) { c.MustRevalidate = true },
		"public":           func(c *Control) { c.Public = true },
		"private":          func(c *Control) { c.Private = true },
		"only-if-cached":   func(c *Control) { c.OnlyIfCached = true },
	}
}

// counts are the directives with a number of seconds.
func counts() map[string]func(*Control) *int {
	return map[string]func(*Control) *int{
		"max-age":                func(c *Control) *int { return &c.MaxAge },
		"s-maxage":               func(c *Control) *int { return &c.SMaxAge },
		"min-fresh":              func(c *Control) *int { return &c.MinFresh },
		"max-stale":              func(c *Control) *int { return &c.MaxStale },
		"stale-while-revalidate": func(c *Control) *int { return &c.Stale },
		"stale-if-error":         func(c *Control) *int { return &c.Error },
	}
}

// sizes are a name in small, capital and mixed letters.
func sizes(name string) []string {
	return []string{name, strings.ToUpper(name), strings.ToUpper(name[:1]) + name[1:], name[:len(name)-1] + strings.ToUpper(name[len(name)-1:])}
}

func TestNoDirectives(t *testing.T) { // P17.2
	isDirectives(t, nil, none())
	isDirectives(t, []api.Field{}, none())
	isDirectives(t, named("cache-control", ""), none())
	isDirectives(t, named("cache-control", ",", " , "), none())
	for _, name := range []string{"Cache-Control", "cache-contro", "cache-controls", "cache control", "pragma", "", "vary"} {
		isDirectives(t, named(name, "no-store, max-age=60, max-stale"), none())
	}
	for _, element := range []string{"immutable", "no-transform", "=60", "=", `""`, "x=no-store", `"no-store"`, "no-store;max-age", "no-store =", "max-age =60", "max-age\t=60",
		"no store", "no_store", "nostore", "-no-store", "no-store-", "x-no-store", "no-cached", "publi", "privates", "max-ag", "max-age2=60", "max-ages=60", "max", "s-max-age=60", "smaxage=60",
		"maxage=60", "s-maxag=1", "max-stale2", "min-fres=1", "stale-while-revalidat=1", "stale-while-revalidate-=1", "stale-if-errors=1", "stale=1", "error=1", "stale-if=1",
		"must-revalidate2", "revalidate", "proxy-revalidat", "only-if-cache", "max-\u017ftale", "no-\u017ftore", "max-age;=60", "'no-store'", `x="no-store, max-age=60"`, `"no-store, public`} {
		isDirectives(t, named("cache-control", element), none())
	}
}

func TestEachFlag(t *testing.T) { // P17.2
	for name, turn := range flags() {
		want := with(turn)
		for _, size := range sizes(name) {
			for _, behind := range []string{"", "=", "=1", "=0", "=no", `=""`, `="x-a, x-b"`, `="`, `="x`, "==", `="a"b`} {
				isDirectives(t, named("cache-control", size+behind), want)
				isDirectives(t, named("cache-control", " "+size+behind+"\t"), want)
			}
			isDirectives(t, named("cache-control", "x, "+size+" ,y"), want)
			isDirectives(t, named("cache-control", size, size), want)
			isDirectives(t, append(named("pragma", "x"), header("cache-control", "y"), header("other", "public"), header("cache-control", size)), want)
		}
	}
}

func TestEachCount(t *testing.T) { // P17.2
	for name, of := range counts() {
		for argument, want := range map[string]int{
			"=60": 60, `="60"`: 60, "=0": 0, `="0"`: 0, "=060": 60, "=1": 1, "=2147483647": most - 1, "=2147483648": most, "=2147483649": most, `="99999999999999999999"`: most, "=18446744073709551617": most,
			"=": 0, `=""`: 0, `="`: 0, `="60`: 0, `=60"`: 0, `=""60""`: 0, `="60""`: 0, `=""60"`: 0, `="6"0`: 0, `=6"0"`: 0, "=x": 0, `="x"`: 0, "=-1": 0, "=+1": 0, "= 60": 0, `=" 60"`: 0, `="60 "`: 0, "=6 0": 0, "=1.5": 0, "==60": 0, "=60=": 0,
			`="6\0"`: 0, "='60'": 0, "=60;": 0, "=6\x000": 0,
		} {
			for _, size := range sizes(name) {
				isDirectives(t, named("cache-control", size+argument), with(func(c *Control) { *of(c) = want }))
			}
		}
		bare := 0
		if name == "max-stale" {
			bare = most
		}
		for _, size := range sizes(name) {
			isDirectives(t, named("cache-control", size), with(func(c *Control) { *of(c) = bare }))
			isDirectives(t, named("cache-control", "a,\t"+size+" ,b"), with(func(c *Control) { *of(c) = bare }))
			isDirectives(t, named("cache-control", size+"=7", size), with(func(c *Control) { *of(c) = 7 }))
			isDirectives(t, named("cache-control", size+","+name+"=7"), with(func(c *Control) { *of(c) = bare }))
		}
	}
}

func TestFirstArgument(t *testing.T) { // P17.2
	for name, of := range counts() {
		for _, k := range []struct {
			first, second string
			want          int
		}{
			{"=1", "=2", 1}, {"=2", "=1", 2}, {"=0", "=2", 0}, {"=x", "=2", 0}, {"=", "=2", 0}, {`="`, "=2", 0}, {"=1", "=x", 1}, {"=99999999999", "=2", most}, {"=1", "=", 1},
		} {
			want := with(func(c *Control) { *of(c) = k.want })
			isDirectives(t, named("cache-control", name+k.first+","+name+k.second), want)
			isDirectives(t, named("cache-control", name+k.first, name+k.second), want)
			isDirectives(t, named("cache-control", strings.ToUpper(name)+k.first+","+name+k.second+","+name+"=9"), want)
			isDirectives(t, append(named("cache-controls", name+"=8"), header("cache-control", "x"), header("cache-control", name+k.first), header("cache-control", name+k.second)), want)
		}
	}
}

func TestAllDirectives(t *testing.T) { // P17.2
	all := []string{"no-store", "no-cache", "must-revalidate", "public", "private", "only-if-cached", "max-age=1", "s-maxage=2", "min-fresh=3", "max-stale=4", "stale-while-revalidate=5", "stale-if-error=6"}
	want := Control{NoStore: true, NoCache: true, MustRevalidate: true, Public: true, Private: true, OnlyIfCached: true, MaxAge: 1, SMaxAge: 2, MinFresh: 3, MaxStale: 4, Stale: 5, Error: 6}
	for _, value := range []string{strings.Join(all, ","), strings.ToUpper(strings.Join(all, " , ")), strings.Join(all, ", x,,") + ",proxy-revalidate"} {
		isDirectives(t, named("cache-control", value), want)
	}
	isDirectives(t, named("cache-control", all...), want)
	isDirectives(t, named("cache-control", "proxy-revalidate, must-revalidate"), with(func(c *Control) { c.MustRevalidate = true }))
	isDirectives(t, named("cache-control", `private="no-store, public", max-age="5"`), with(func(c *Control) { c.Private, c.MaxAge = true, 5 }))
	isDirectives(t, named("cache-control", `max-age="5, no-store`, "public"), with(func(c *Control) { c.MaxAge, c.Public = 0, true }))
}
