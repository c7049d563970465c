package notes

import (
	"encoding/json"
	"errors"
	"fmt"
	"math"
	"math/big"
	"reflect"
	"regexp"
	"strconv"
	"strings"
	"testing"
	"unsafe"

	"gazetteer/api"
	"gazetteer/jtext"
)

const most = 9007199254740991

// todo is what Check has still to look at.
type todo struct {
	v     any
	deep  int
	named bool
	name  string
	ahead string // the names ahead in the object, as Go writes them
}

// checkBy tells Check's answer, by the words of the chapter: what is to be looked
// at stands in a list.
func checkBy(v any) api.Errno {
	work := []todo{{v: v, deep: 1}}
	for len(work) > 0 {
		w := work[0]
		work = work[1:]
		if w.named && !jtext.Valid(w.name) {
			return api.ErrForm
		}
		if w.named && strings.Contains(w.ahead, " "+strconv.Quote(w.name)+" ") {
			return api.ErrTwice
		}
		var parts []todo
		switch x := w.v.(type) {
		case nil, bool:
			continue
		case int:
			if new(big.Int).Abs(big.NewInt(int64(x))).Cmp(big.NewInt(most)) > 0 {
				return api.ErrOver
			}
			continue
		case string:
			if !jtext.Valid(x) {
				return api.ErrForm
			}
			continue
		case []any:
			for _, item := range x {
				parts = append(parts, todo{v: item, deep: w.deep + 1})
			}
		case []Pair:
			ahead := " "
			for _, p := range x {
				parts = append(parts, todo{p.V, w.deep + 1, true, p.Name, ahead})
				ahead += strconv.Quote(p.Name) + " "
			}
		default:
			return api.ErrKind
		}
		if w.deep > 4 {
			return api.ErrDeep
		}
		if len(parts) > 64 {
			return api.ErrMany
		}
		work = append(parts, work...)
	}
	return api.OK
}

// jsonOf tells the JSON of a value that Check takes.
func jsonOf(v any) string {
	var l []string
	switch x := v.(type) {
	case nil:
		return "null"
	case string:
		q, _ := jtext.Quote(x)
		return q
	case []any:
		for _, item := range x {
			l = append(l, jsonOf(item))
		}
		return "[" + strings.Join(l, ",") + "]"
	case []Pair:
		for _, p := range x {
			l = append(l, jsonOf(p.Name)+":"+jsonOf(p.V))
		}
		return "{" + strings.Join(l, ",") + "}"
	}
	return fmt.Sprint(v)
}

// taken is what Take tells.
type taken struct {
	v   any
	at  int
	bad api.Errno
}

// open is a list or an object whose end has not come, and what is to come in it.
type open struct {
	sign  byte
	items []any
	pairs []Pair
	name  string
}

// has tells how many items it has, or names.
func (o *open) has() int { return len(o.items) + len(o.pairs) }

var (
	isWord   = regexp.MustCompile(`^(null|true|false)`)
	isNumber = regexp.MustCompile(`^[-+.eE0-9]+`)
	isDigits = regexp.MustCompile(`^(0|-?[1-9][0-9]*)$`)
)

// plainBy tells the value that begins at a place, if it is no list and no object.
func plainBy(s string, at int) taken {
	rest := s[at:]
	if w := isWord.FindString(rest); w != "" {
		return taken{map[string]any{"null": nil, "true": true, "false": false}[w], at + len(w), api.OK}
	}
	if n := isNumber.FindString(rest); n != "" {
		x, _ := new(big.Int).SetString(n, 10)
		switch {
		case !isDigits.MatchString(n):
			return taken{nil, at, api.ErrForm}
		case new(big.Int).Abs(x).Cmp(big.NewInt(most)) > 0:
			return taken{nil, at, api.ErrOver}
		}
		return taken{int(x.Int64()), at + len(n), api.OK}
	}
	for _, w := range []string{"null", "true", "false"} {
		if len(rest) < len(w) && w[:len(rest)] == rest {
			return taken{nil, len(s), api.ErrShort}
		}
	}
	if rest[0] != '"' {
		return taken{nil, at, api.ErrForm}
	}
	text, next, bad := jtext.Take(s, at)
	return taken{text, next, bad}
}

// takeBy tells Take's answer, by the words of the chapter: what is open stands in
// a list, and want tells what may stand next: a value, an item (or the end), a
// name (or the end), :, a comma (or the end), or nothing.
func takeBy(s string) taken {
	if len(s) > 4096 {
		return taken{nil, 0, api.ErrLong}
	}
	var opened []*open
	var done any
	want, first, at := "value", false, 0
	put := func(v any) {
		want = "comma"
		if len(opened) == 0 {
			done, want = v, "nothing"
		} else if o := opened[len(opened)-1]; o.sign == '[' {
			o.items = append(o.items, v)
		} else {
			o.pairs[len(o.pairs)-1].V = v
		}
	}
	for ; ; first = first && want != "comma" {
		for at < len(s) && (s[at] == 32 || s[at] == 9 || s[at] == 10 || s[at] == 13) {
			at++
		}
		if want == "nothing" && at == len(s) {
			return taken{done, at, api.OK}
		}
		if want == "nothing" {
			return taken{nil, at, api.ErrForm}
		}
		if at == len(s) {
			return taken{nil, at, api.ErrShort}
		}
		var o *open
		if len(opened) > 0 {
			o = opened[len(opened)-1]
		}
		if (want == "item" || want == "name") && o.has() == 64 {
			return taken{nil, at, api.ErrMany}
		}
		mayEnd := want == "comma" || first && (want == "item" || want == "name")
		switch c := s[at]; {
		case mayEnd && c == o.sign+2: // as ] is behind [, and } behind {
			opened = opened[:len(opened)-1]
			if o.sign == '[' {
				put(o.items)
			} else {
				put(o.pairs)
			}
			at++
		case want == "comma" && c == ',' && o.sign == '[':
			want, first, at = "item", false, at+1
		case want == "comma" && c == ',':
			want, first, at = "name", false, at+1
		case want == "colon" && c == ':':
			want, at = "value", at+1
		case want == "comma" || want == "colon":
			return taken{nil, at, api.ErrForm}
		case want == "name":
			name, next, bad := jtext.Take(s, at)
			if bad != api.OK {
				return taken{nil, next, bad}
			}
			for _, p := range o.pairs {
				if p.Name == name {
					return taken{nil, at, api.ErrTwice}
				}
			}
			o.pairs = append(o.pairs, Pair{Name: name})
			want, at = "colon", next
		case (c == '[' || c == '{') && len(opened) == 4:
			return taken{nil, at, api.ErrDeep}
		case c == '[':
			opened = append(opened, &open{sign: c, items: []any{}})
			want, first, at = "item", true, at+1
		case c == '{':
			opened = append(opened, &open{sign: c, pairs: []Pair{}})
			want, first, at = "name", true, at+1
		default:
			w := plainBy(s, at)
			if w.bad != api.OK {
				return taken{nil, w.at, w.bad}
			}
			put(w.v)
			at = w.at
		}
	}
}

// tryTake holds Take's answer.
func tryTake(t *testing.T, s string, want taken) {
	t.Helper()
	v, at, bad := Take(s)
	if got := (taken{v, at, bad}); !reflect.DeepEqual(got, want) {
		t.Errorf("Take(%q): %#v, %d, %d; want %#v, %d, %d", s, v, at, int(bad), want.v, want.at, int(want.bad))
	}
}

// tryText holds Take's answer, by the words of the chapter.
func tryText(t *testing.T, s string) {
	t.Helper()
	tryTake(t, s, takeBy(s))
}

// tryValue holds the answers of Check and Put of a value, by the words of the
// chapter, and that it comes back of its JSON.
func tryValue(t *testing.T, v any) {
	t.Helper()
	want := checkBy(v)
	if bad := Check(v); bad != want {
		t.Errorf("Check(%#v): %d; want %d", v, int(bad), int(want))
	}
	text := ""
	if want == api.OK {
		text = jsonOf(v)
	}
	if len(text) > 4096 {
		text, want = "", api.ErrLong
	}
	s, bad := Put(v)
	if s != text || bad != want {
		t.Errorf("Put(%#v): %q, %d; want %q, %d", v, s, int(bad), text, int(want))
	}
	if bad != api.OK {
		return
	}
	back, at, bad := Take(s)
	if !Same(v, back) || at != len(s) || bad != api.OK || jsonOf(back) != s {
		t.Errorf("Take(%q): %#v, %d, %d; want %#v", s, back, at, int(bad), v)
	}
}

// textsOf tells each text of up to n pieces.
func textsOf(pieces []string, n int, tell func(string)) {
	tell("")
	if n == 0 {
		return
	}
	for _, p := range pieces {
		textsOf(pieces, n-1, func(s string) { tell(p + s) })
	}
}

// valuesOf tells lists and objects, each of up to two of some values.
func valuesOf(some []any, names []string) []any {
	l := []any{[]any{}, []any(nil), []Pair{}, []Pair(nil)}
	for _, a := range some {
		l = append(l, []any{a})
		for _, n := range names {
			l = append(l, []Pair{{n, a}})
		}
		for _, b := range some {
			l = append(l, []any{a, b})
			for _, n := range names {
				for _, m := range names {
					l = append(l, []Pair{{n, a}, {m, b}})
				}
			}
		}
	}
	return l
}

// nested tells a value in lists and objects, as many as there are signs.
func nested(signs string, v any) any {
	for i := len(signs) - 1; i >= 0; i-- {
		if signs[i] == '[' {
			v = []any{v}
		} else {
			v = []Pair{{"a", v}}
		}
	}
	return v
}

// many tells a list or an object of n nothings.
func many(sign byte, n int) any {
	if sign == '[' {
		return make([]any, n)
	}
	l := make([]Pair, n)
	for i := range l {
		l[i].Name = fmt.Sprint(i)
	}
	return l
}

type (
	myInt    int
	myText   string
	myBool   bool
	myList   []any
	myObject []Pair
)

// noValues tells some things that are no value.
func noValues() []any {
	one, list := 1, []any{}
	return []any{int8(1), int16(1), int32(1), int64(1), uint(1), uint8(1), uint64(1), uintptr(1), 1.5, float32(0), 1i,
		[]int{1}, []string{"a"}, []byte("a"), [1]any{1}, []error{nil}, [][]any{{}}, [][]Pair{{}}, []*Pair{}, map[string]any{}, map[string]any(nil),
		Pair{}, &Pair{}, struct{}{}, &one, &list, (*int)(nil), func() {}, (func())(nil), make(chan int), errors.New("a"), api.OK,
		json.Number("1"), json.RawMessage("1"), myInt(1), myText("a"), myBool(true), myList{}, myObject{}}
}

// P17.1: each kind, and each edge of the numbers.
func TestCheckKinds(t *testing.T) {
	for _, v := range []any{nil, true, false, 0, 1, -1, most, -most, "", "a", "\x00€\U0010ffff", []any{}, []any(nil), []Pair{}, []Pair(nil)} {
		if bad := Check(v); bad != api.OK {
			t.Errorf("%#v: %d", v, int(bad))
		}
		tryValue(t, v)
	}
	for _, v := range noValues() {
		for _, x := range []any{v, []any{v}, []any{1, v, "\xff"}, []Pair{{"a", v}}, []Pair{{"b", nil}, {"a", v}, {"a", nil}}} {
			if bad := Check(x); bad != api.ErrKind {
				t.Errorf("%T: %d", v, int(bad))
			}
			if s, bad := Put(x); s != "" || bad != api.ErrKind {
				t.Errorf("Put of %T: %q, %d", v, s, int(bad))
			}
			if Same(x, x) {
				t.Errorf("%T", v)
			}
		}
	}
	for _, n := range []int{most + 1, -most - 1, math.MaxInt, math.MinInt, math.MaxInt32 + 1, math.MinInt32, 1 << 53, -1 << 53} {
		want := api.OK
		if n > most || n < -most {
			want = api.ErrOver
		}
		if bad := Check(n); bad != want {
			t.Errorf("%d: %d", n, int(bad))
		}
		tryValue(t, n)
		tryValue(t, []any{n, int8(1)})
	}
	for _, s := range []string{"\xff", "a\xc0\x80", "\xed\xa0\x80", "\xf4\x90\x80\x80", "€\xe2\x82"} {
		if bad := Check(s); bad != api.ErrForm {
			t.Errorf("%q: %d", s, int(bad))
		}
		if bad := Check([]Pair{{s, int8(1)}}); bad != api.ErrForm {
			t.Errorf("%q: %d", s, int(bad))
		}
	}
}

// P17.1, P17.2, P17.5: all small values, in two levels.
func TestSmallValues(t *testing.T) {
	atoms := []any{nil, true, 0, most + 1, "", "\xff", int8(1)}
	names := []string{"", "a", "\xff"}
	level := valuesOf(atoms, names)
	for _, v := range level {
		tryValue(t, v)
	}
	var some []any
	for i := 0; i < len(level); i += 7 {
		some = append(some, level[i])
	}
	for _, v := range valuesOf(append(some, atoms...), []string{"a", "b"}) {
		tryValue(t, v)
	}
}

// P17.1: how deep and how many, whichever is told first.
func TestCheckDeepAndMany(t *testing.T) {
	for n := range 7 {
		for kinds := range 1 << n {
			signs := strings.NewReplacer("0", "[", "1", "{").Replace(fmt.Sprintf("%0*b", n, kinds))[:n]
			want := api.OK
			if n > 4 {
				want = api.ErrDeep
			}
			if bad := Check(nested(signs, 1)); bad != want {
				t.Errorf("%s: %d", signs, int(bad))
			}
			for _, v := range []any{int8(1), "\xff", many('[', 65), many('{', 65), []any{}, []Pair{}} {
				tryValue(t, nested(signs, v))
			}
		}
	}
	for _, sign := range []byte("[{") {
		for n, want := range map[int]api.Errno{0: api.OK, 1: api.OK, 63: api.OK, 64: api.OK, 65: api.ErrMany, 66: api.ErrMany, 5000: api.ErrMany} {
			for _, signs := range []string{"", "[", "{{{"} {
				if bad := Check(nested(signs, many(sign, n))); bad != want {
					t.Errorf("%c %d: %d", sign, n, int(bad))
				}
				tryValue(t, nested(signs, many(sign, n)))
			}
			if bad := Check(nested("{[{[", many(sign, n))); bad != api.ErrDeep {
				t.Errorf("%c %d: %d", sign, n, int(bad))
			}
		}
	}
	wide := many('[', 65).([]any)
	wide[0] = int8(1)
	tryValue(t, wide)
	twice := many('{', 65).([]Pair)
	twice[1].Name = "0"
	tryValue(t, twice)
	tryValue(t, twice[:64])
	twice = twice[:64]
	twice[1].Name, twice[63].Name = "1", "0"
	if bad := Check(twice); bad != api.ErrTwice {
		t.Errorf("%d", int(bad))
	}
	twice[62].V = int8(1)
	if bad := Check(twice); bad != api.ErrKind {
		t.Errorf("%d", int(bad))
	}
}

// P17.1: the order of the errors, written out.
func TestCheckOrder(t *testing.T) {
	for i, x := range []struct {
		v    any
		want api.Errno
	}{
		{[]any{"\xff", 1.5}, api.ErrForm},
		{[]any{1.5, "\xff"}, api.ErrKind},
		{[]any{[]any{1.5}, "\xff"}, api.ErrKind},
		{[]any{[]any{most + 1}, many('[', 65)}, api.ErrOver},
		{[]any{many('[', 65), 1.5}, api.ErrMany},
		{[]Pair{{"\xff", 1.5}}, api.ErrForm},
		{[]Pair{{"a", 1.5}, {"a", nil}}, api.ErrKind},
		{[]Pair{{"a", nil}, {"a", 1.5}}, api.ErrTwice},
		{[]Pair{{"a", nil}, {"b", nil}, {"a", nil}}, api.ErrTwice},
		{[]Pair{{"\xff", nil}, {"\xff", nil}}, api.ErrForm},
		{[]Pair{{"", nil}, {"", nil}}, api.ErrTwice},
		{[]Pair{{"a", []Pair{{"a", nil}}}}, api.OK}, // one name in two objects
		{[]Pair{{"a", nil}, {"A", nil}, {"a ", nil}, {"", nil}}, api.OK},
		{[]Pair{{"a", []Pair{{"b", nil}, {"b", nil}}}, {"a", nil}}, api.ErrTwice},
		{nested("[[[[", many('[', 65)), api.ErrDeep},
		{nested("[[[[", []any{int8(1)}), api.ErrDeep},
		{nested("[[[", []any{int8(1)}), api.ErrKind},
		{[]any{nested("[[[[", 1), 1.5}, api.ErrDeep},
		{[]any{1.5, nested("[[[[", 1)}, api.ErrKind},
	} {
		if bad := Check(x.v); bad != x.want {
			t.Errorf("%d: %d; want %d", i, int(bad), int(x.want))
		}
		tryValue(t, x.v)
	}
}

// P17.2: the chapter's example, and others written out.
func TestPut(t *testing.T) {
	for want, v := range map[string]any{
		`{"name":"a","list":[1,null]}`: []Pair{{"name", "a"}, {"list", []any{1, nil}}},
		`null`:                         nil,
		`true`:                         true,
		`false`:                        false,
		`0`:                            0,
		`-7`:                           -7,
		`9007199254740991`:             most,
		`-9007199254740991`:            -most,
		`""`:                           "",
		`"\"\\/\n\u0001€"`:             "\"\\/\n\x01€",
		`[]`:                           []any(nil),
		`{}`:                           []Pair(nil),
		`[[],{},[[[]]]]`:               []any{[]any{}, []Pair{}, []any{[]any{[]any{}}}},
		`{"":{"\"":[true,false,-1]}}`:  []Pair{{"", []Pair{{`"`, []any{true, false, -1}}}}},
		`{"b":1,"a":2}`:                []Pair{{"b", 1}, {"a", 2}}, // as they stand
	} {
		if s, bad := Put(v); s != want || bad != api.OK {
			t.Errorf("%#v: %q, %d; want %q", v, s, int(bad), want)
		}
		tryValue(t, v)
	}
}

// P17.2: how long, to the byte; and Check's error first.
func TestPutLong(t *testing.T) {
	list := func(n int) []any { // of 64 texts, so that its JSON has n bytes
		l := make([]any, 64)
		for i := range l {
			l[i] = strings.Repeat("a", 60)
		}
		rest := n - len(jsonOf(l[:63])) - 3
		l[63] = strings.Repeat("a", rest)
		return l
	}
	for n := 4090; n <= 4100; n++ {
		want := api.OK
		if n > api.MaxMeta {
			want = api.ErrLong
		}
		for _, v := range []any{strings.Repeat("a", n-2), []any{strings.Repeat("a", n-4)}, []Pair{{strings.Repeat("a", n-6), 1}}, []Pair{{"a", []any{strings.Repeat("a", n-10)}}}, strings.Repeat("\n", 40) + strings.Repeat("a", n-82), strings.Repeat("€", 100) + strings.Repeat("a", n-302), list(n), []any{list(n - 2)}, []any{strings.Repeat("a", n-9), []any{}, 1}} {
			if len(jsonOf(v)) != n {
				t.Fatalf("%d: %d", n, len(jsonOf(v)))
			}
			if s, bad := Put(v); bad != want || (bad == api.OK) != (len(s) == n) {
				t.Errorf("%d: %d bytes, %d", n, len(s), int(bad))
			}
			tryValue(t, v)
		}
	}
	for _, v := range []any{strings.Repeat("\x01", 682), strings.Repeat("\x01", 683), strings.Repeat("\"", 2047), strings.Repeat("\"", 2048), strings.Repeat("€", 1364), strings.Repeat("€", 1365)} {
		tryValue(t, v)
	}
	long := strings.Repeat("a", 5000)
	for v, want := range map[*[]any]api.Errno{{long, int8(1)}: api.ErrKind, {long, "\xff"}: api.ErrForm, {long, many('[', 65)}: api.ErrMany, {long, long}: api.ErrLong} {
		if s, bad := Put(*v); s != "" || bad != want {
			t.Errorf("%q, %d; want %d", s, int(bad), int(want))
		}
	}
}

// P17.3: values, places and errors, written out.
func TestTake(t *testing.T) {
	repeat := strings.Repeat
	for s, want := range map[string]taken{
		"null":                {nil, 4, api.OK},
		" \t\n\rtrue\r\n\t ":  {true, 12, api.OK},
		"false":               {false, 5, api.OK},
		"0":                   {0, 1, api.OK},
		"-1":                  {-1, 2, api.OK},
		"9007199254740991":    {most, 16, api.OK},
		"-9007199254740991":   {-most, 17, api.OK},
		`"a\u0041"`:           {"aA", 9, api.OK},
		"[]":                  {[]any{}, 2, api.OK},
		"{ }":                 {[]Pair{}, 3, api.OK},
		"[null]":              {[]any{nil}, 6, api.OK},
		`[1 , "a",[ ] ,{}]`:   {[]any{1, "a", []any{}, []Pair{}}, 17, api.OK},
		`{"a" : 1 ,"b":[{}]}`: {[]Pair{{"a", 1}, {"b", []any{[]Pair{}}}}, 19, api.OK},
		`{"":{"":{"":{}}}}`:   {[]Pair{{"", []Pair{{"", []Pair{{"", []Pair{}}}}}}}, 17, api.OK},

		"":         {nil, 0, api.ErrShort},
		" \n":      {nil, 2, api.ErrShort},
		"n":        {nil, 1, api.ErrShort},
		"tru":      {nil, 3, api.ErrShort},
		"fals":     {nil, 4, api.ErrShort},
		"nul ":     {nil, 0, api.ErrForm},
		" trux":    {nil, 1, api.ErrForm},
		"[fal]":    {nil, 1, api.ErrForm},
		"nulltrue": {nil, 4, api.ErrForm},
		"Null":     {nil, 0, api.ErrForm},
		"nil":      {nil, 0, api.ErrForm},
		"x":        {nil, 0, api.ErrForm},
		"\v1":      {nil, 0, api.ErrForm},
		"\u00a01":  {nil, 0, api.ErrForm},
		"\x001":    {nil, 0, api.ErrForm},
		"'a'":      {nil, 0, api.ErrForm},
		"]":        {nil, 0, api.ErrForm},
		"}":        {nil, 0, api.ErrForm},
		",":        {nil, 0, api.ErrForm},
		":":        {nil, 0, api.ErrForm},
		"1 2":      {nil, 2, api.ErrForm},
		"1,":       {nil, 1, api.ErrForm},
		"[] ]":     {nil, 3, api.ErrForm},
		"1\x00":    {nil, 1, api.ErrForm},

		"-":                       {nil, 0, api.ErrForm},
		"+1":                      {nil, 0, api.ErrForm},
		"-0":                      {nil, 0, api.ErrForm},
		"00":                      {nil, 0, api.ErrForm},
		"01":                      {nil, 0, api.ErrForm},
		"-01":                     {nil, 0, api.ErrForm},
		"--1":                     {nil, 0, api.ErrForm},
		"1.0":                     {nil, 0, api.ErrForm},
		"1e3":                     {nil, 0, api.ErrForm},
		"1E3":                     {nil, 0, api.ErrForm},
		"e":                       {nil, 0, api.ErrForm},
		"E":                       {nil, 0, api.ErrForm},
		".":                       {nil, 0, api.ErrForm},
		" [1-2]":                  {nil, 2, api.ErrForm},
		"[1+]":                    {nil, 1, api.ErrForm},
		"1_0":                     {nil, 1, api.ErrForm},
		"0x1":                     {nil, 1, api.ErrForm},
		"9007199254740992":        {nil, 0, api.ErrOver},
		" -9007199254740992":      {nil, 1, api.ErrOver},
		"9223372036854775807":     {nil, 0, api.ErrOver},
		"9223372036854775808":     {nil, 0, api.ErrOver},
		"-9223372036854775809":    {nil, 0, api.ErrOver},
		"99999999999999999999x":   {nil, 0, api.ErrOver},
		"99999999999999999999.":   {nil, 0, api.ErrForm},
		"099999999999999999999":   {nil, 0, api.ErrForm},
		"-099999999999999999999":  {nil, 0, api.ErrForm},
		"+99999999999999999999":   {nil, 0, api.ErrForm},
		"9" + repeat("0", 4095):   {nil, 0, api.ErrOver},
		"0" + repeat("0", 4095):   {nil, 0, api.ErrForm},
		"[1," + repeat("7", 4093): {nil, 3, api.ErrOver},

		`"`:              {nil, 1, api.ErrShort},
		`"a`:             {nil, 2, api.ErrShort},
		`["a\x"]`:        {nil, 3, api.ErrForm},
		"[\"a\n\"]":      {nil, 3, api.ErrForm},
		`["a\u00`:        {nil, 7, api.ErrShort},
		"\"\xff\"":       {nil, 1, api.ErrForm},
		`{"a\x":1}`:      {nil, 3, api.ErrForm},
		`{"a`:            {nil, 3, api.ErrShort},
		`"a" "b"`:        {nil, 4, api.ErrForm},
		`"a"b`:           {nil, 3, api.ErrForm},
		"[":              {nil, 1, api.ErrShort},
		"[ ":             {nil, 2, api.ErrShort},
		"[,1]":           {nil, 1, api.ErrForm},
		"[1":             {nil, 2, api.ErrShort},
		"[1 ":            {nil, 3, api.ErrShort},
		"[1,":            {nil, 3, api.ErrShort},
		"[1, ":           {nil, 4, api.ErrShort},
		"[1,]":           {nil, 3, api.ErrForm},
		"[1,,1]":         {nil, 3, api.ErrForm},
		"[1 2]":          {nil, 3, api.ErrForm},
		"[1:2]":          {nil, 2, api.ErrForm},
		"[1}":            {nil, 2, api.ErrForm},
		"[}":             {nil, 1, api.ErrForm},
		"{":              {nil, 1, api.ErrShort},
		"{ ":             {nil, 2, api.ErrShort},
		"{]":             {nil, 1, api.ErrForm},
		"{,}":            {nil, 1, api.ErrForm},
		"{:1}":           {nil, 1, api.ErrForm},
		"{1:2}":          {nil, 1, api.ErrForm},
		"{null:2}":       {nil, 1, api.ErrForm},
		`{"a"`:           {nil, 4, api.ErrShort},
		`{"a" `:          {nil, 5, api.ErrShort},
		`{"a" 1}`:        {nil, 5, api.ErrForm},
		`{"a"}`:          {nil, 4, api.ErrForm},
		`{"a",1}`:        {nil, 4, api.ErrForm},
		`{"a"::1}`:       {nil, 5, api.ErrForm},
		`{"a":`:          {nil, 5, api.ErrShort},
		`{"a": `:         {nil, 6, api.ErrShort},
		`{"a":}`:         {nil, 5, api.ErrForm},
		`{"a":1`:         {nil, 6, api.ErrShort},
		`{"a":1]`:        {nil, 6, api.ErrForm},
		`{"a":1:`:        {nil, 6, api.ErrForm},
		`{"a":1,`:        {nil, 7, api.ErrShort},
		`{"a":1,}`:       {nil, 7, api.ErrForm},
		`{"a":1,2}`:      {nil, 7, api.ErrForm},
		`{"a":nul}`:      {nil, 5, api.ErrForm},
		`{"a":nul`:       {nil, 8, api.ErrShort},
		`{"a":1,"a":2}`:  {nil, 7, api.ErrTwice},
		`{"a":1, "a"`:    {nil, 8, api.ErrTwice},
		`{"a":1,"a" x`:   {nil, 7, api.ErrTwice},
		`{"a":1,"\u0061`: {nil, 14, api.ErrShort}, // not taken yet
		`{"a":x,"a":2}`:  {nil, 5, api.ErrForm},
		`{"/":1,"\/":2}`: {nil, 7, api.ErrTwice},

		`{"a":1,"\u0061"}`:    {nil, 7, api.ErrTwice},
		`{"a":{"a":1,"a":2}}`: {nil, 12, api.ErrTwice},
		"[[[[[":               {nil, 4, api.ErrDeep},
		"[[[[ {":              {nil, 5, api.ErrDeep},
		`{"a":[[[{"b`:         {nil, 8, api.ErrDeep},
		`[[[[],[1,[]]]]]`:     {nil, 9, api.ErrDeep},
		"[[[[]]]":             {nil, 7, api.ErrShort},

		repeat(" ", 4096):                           {nil, 4096, api.ErrShort},
		repeat(" ", 4097):                           {nil, 0, api.ErrLong},
		repeat("x", 4097):                           {nil, 0, api.ErrLong},
		repeat(" ", 4095) + "1":                     {1, 4096, api.OK},
		"1" + repeat("\n", 4095):                    {1, 4096, api.OK},
		"1" + repeat("\n", 4096):                    {nil, 0, api.ErrLong},
		`"` + repeat("a", 4094) + `"`:               {repeat("a", 4094), 4096, api.OK},
		`"` + repeat("a", 4095) + `"`:               {nil, 0, api.ErrLong},
		"[" + repeat("1,", 63) + "1]":               {takeBy("[" + repeat("1,", 63) + "1]").v, 129, api.OK},
		"[" + repeat("1,", 64) + "1]":               {nil, 129, api.ErrMany},
		"[" + repeat("1,", 64):                      {nil, 129, api.ErrShort}, // no byte stands there
		"[" + repeat("1,", 64) + "  ":               {nil, 131, api.ErrShort},
		"[" + repeat("1,", 64) + "  ]":              {nil, 131, api.ErrMany},
		"[" + repeat("1,", 63) + "1 x":              {nil, 129, api.ErrForm},
		"[" + repeat("1,", 63) + "x,":               {nil, 127, api.ErrForm},
		"[" + repeat("[],", 64) + "[":               {nil, 193, api.ErrMany},
		"[" + repeat("["+repeat("1,", 30)+"1],", 3): {nil, 193, api.ErrShort}, // each has its own
	} {
		tryTake(t, s, want)
		tryText(t, s)
	}
}

// P17.3: all texts of a few pieces.
func TestTakePieces(t *testing.T) {
	textsOf([]string{"[", "]", "{", "}", ",", ":", `"a"`, "1", " "}, 6, func(s string) { tryText(t, s) })
	textsOf([]string{"[", "]", "{", "}", ",", ":", `"a"`, `"b"`, `"\u0061"`, `"`, `\`, "null", "true", "false", "nul", "t", "0", "-", "1.5", "9007199254740992", "\n", "\v", "\xff", "€", "+", "E"}, 3, func(s string) { tryText(t, s) })
	textsOf([]string{`{"a":`, `"a":`, `"b":`, "1", ",", "}", "[", "]"}, 6, func(s string) { tryText(t, s) })
	textsOf([]string{"[", `{"a":`, "[1,", "]", "}", "1"}, 7, func(s string) { tryText(t, s) })
	textsOf([]string{"0", "1", "9", "-", "+", ".", "e", "E"}, 5, func(s string) { tryText(t, s); tryText(t, "["+s+"]") })
}

// P17.3: all texts of two bytes, and good ones that are cut off, or spoilt by a
// byte at a place.
func TestTakeSpoilt(t *testing.T) {
	for b := range 1 << 16 {
		tryText(t, string([]byte{byte(b >> 8), byte(b)}))
	}
	for _, s := range []string{`[true , false,-12, "\u0041/"]`, ` {"a":{"b":[{}]},"c":0} `, `{"a" : null, "b":["x\n€",[ ]],"":[[[1],2],3]}`, "9007199254740991", `[[[[],{}],{"a":1}],"]"]`, "[nullnull]"} {
		for at := 0; at <= len(s); at++ {
			tryText(t, s[:at])
			tryText(t, s[at:])
			for b := range 256 {
				tryText(t, s[:at]+string([]byte{byte(b)})+s[at:])
				if at < len(s) {
					tryText(t, s[:at]+string([]byte{byte(b)})+s[at+1:])
				}
			}
		}
	}
}

// P17.3: whatever stands where the item or the name 65 would begin.
func TestTakeMany(t *testing.T) {
	pairs := func(n int) string {
		s := jsonOf(many('{', n))
		return s[:len(s)-1]
	}
	for _, s := range []string{"[" + strings.Repeat("1,", 64), pairs(64) + ",", "[" + strings.Repeat("1,", 63), pairs(63) + ",", "[" + strings.Repeat("1,", 63) + "1", pairs(64), "[[[[" + strings.Repeat("[],", 64), `[{"a":[` + strings.Repeat("{},", 64)} {
		tryText(t, s)
		for b := range 256 {
			tryText(t, s+string([]byte{byte(b)}))
			tryText(t, s+"\n "+string([]byte{byte(b)})+"]")
		}
		for _, end := range []string{`"0":1}`, `"64":1}`, `"64`, `"64":1,"65":1}`, "1]", "1,1]", "[[[[", "nul", "9007199254740992", "]]", "}}"} {
			tryText(t, s+end)
			tryText(t, s+"\t"+end)
		}
	}
}

// P17.3: blanks may stand anywhere between.
func TestTakeBlanks(t *testing.T) {
	parts := []string{"", "{", `"a"`, ":", "[", "1", ",", "null", ",", "{", "}", "]", ",", `" "`, ":", "[", "]", ",", `"\t"`, ":", "true", "}", ""}
	want := []Pair{{"a", []any{1, nil, []Pair{}}}, {" ", []any{}}, {"\t", true}}
	for i := range parts {
		for _, blank := range []string{" ", "\t", "\n", "\r", "\r\n \t ", "\v", "\f", "\u0085", "\u00a0", "\ufeff", "\x00", "/**/"} {
			s := strings.Join(parts[:i], "") + blank + strings.Join(parts[i:], "")
			if strings.Trim(blank, " \t\n\r") == "" {
				tryTake(t, s, taken{want, len(s), api.OK})
			} else {
				tryTake(t, s, taken{nil, len(strings.Join(parts[:i], "")), api.ErrForm})
			}
			all := strings.Join(parts, blank)
			tryText(t, s)
			tryText(t, all)
		}
	}
}

// P17.3: what is taken is what Go's own JSON takes.
func TestTakeAsGo(t *testing.T) {
	var plain func(v any) any
	plain = func(v any) any {
		switch x := v.(type) {
		case int:
			return float64(x)
		case []any:
			l := []any{}
			for _, item := range x {
				l = append(l, plain(item))
			}
			return l
		case []Pair:
			m := map[string]any{}
			for _, p := range x {
				m[p.Name] = plain(p.V)
			}
			return m
		}
		return v
	}
	try := func(s string) {
		v, _, bad := Take(s)
		var want any
		err := json.Unmarshal([]byte(s), &want)
		if bad == api.OK && (err != nil || !reflect.DeepEqual(plain(v), want)) {
			t.Errorf("%q: %#v; want %#v, %v", s, v, want, err)
		}
		if err == nil && (bad == api.ErrShort || bad == api.ErrForm && !strings.ContainsAny(s, ".eE\xff") && !strings.Contains(s, "-0")) {
			t.Errorf("%q: %d; want %#v", s, int(bad), want)
		}
	}
	textsOf([]string{"[", "]", `{"a":`, "}", ",", `"a"`, `"b":`, "-", "0", "1", "\n", "null", "\xff", "."}, 5, try)
}

// P17.4: the first pair with a name, and nothing of all else.
func TestFind(t *testing.T) {
	object := []Pair{{"k", "text"}, {"n", nil}, {"", 0}, {"k", "other"}, {"\xff", int8(1)}, {"l", []any{[]Pair{{"k", 1}}}}}
	for name, want := range map[string]any{"k": "text", "n": nil, "": 0, "\xff": int8(1), "l": []any{[]Pair{{"k", 1}}}} {
		if v, is := Find(object, name); !reflect.DeepEqual(v, want) || !is {
			t.Errorf("%q: %#v, %t", name, v, is)
		}
	}
	for _, name := range []string{"K", "k ", "kk", "\x00", "text", "\xfe"} {
		if v, is := Find(object, name); v != nil || is {
			t.Errorf("%q: %#v, %t", name, v, is)
		}
	}
	for _, v := range append(noValues(), nil, true, 1, "k", []any{}, []any{"k"}, []any{object}, []any{Pair{"k", 1}}, []Pair{}, []Pair(nil), myObject{{"k", 1}}, &object, object[0], [1]Pair{{"k", 1}}) {
		if x, is := Find(v, "k"); x != nil || is {
			t.Errorf("%T: %#v, %t", v, x, is)
		}
	}
	for _, v := range noValues() {
		x, is := Find([]Pair{{"a", v}}, "a")
		if reflect.TypeOf(x) != reflect.TypeOf(v) || !is {
			t.Errorf("%T: %T, %t", v, x, is)
		}
	}
}

// falls tells whether a call panics.
func falls(f func()) (fell bool) {
	defer func() { fell = recover() != nil }()
	f()
	return false
}

// P17.4: texts, and what is none.
func TestText(t *testing.T) {
	for _, want := range []string{"", "a", "\xff\x00", strings.Repeat("a", 5000)} {
		if s, is := Text(want); s != want || !is {
			t.Errorf("%q: %q, %t", want, s, is)
		}
		if s := MustText(want); s != want {
			t.Errorf("%q: %q", want, s)
		}
	}
	for _, v := range append(noValues(), nil, true, 0, []any{"a"}, []Pair{{"a", "a"}}, []rune("a")) {
		if s, is := Text(v); s != "" || is {
			t.Errorf("%T: %q, %t", v, s, is)
		}
		if !falls(func() { MustText(v) }) {
			t.Errorf("%T", v)
		}
	}
}

// P17.4: each value with each other one.
func TestSame(t *testing.T) {
	values := append(noValues(), nil, true, false, 0, 1, -1, most, most+1, "", "0", "null", "\xff", "a", "1")
	values = append(values, valuesOf([]any{nil, 0, "", "\xff", []any{}, []any(nil), []Pair{}}, []string{"", "a"})...)
	values = append(values, many('[', 64), many('{', 64), many('[', 65), nested("[[[[", nil), nested("[{[[", nil), nested("[[[[[", nil), []any{1, 2, 3}, []any{1, 3, 2}, []any{1, 2}, []Pair{{"b", nil}, {"a", nil}})
	type told struct {
		bad  api.Errno
		text string
	}
	var all []told
	for _, v := range values {
		x := told{bad: checkBy(v)}
		if x.bad == api.OK {
			x.text = jsonOf(v)
		}
		all = append(all, x)
	}
	for i, a := range values {
		for j, b := range values {
			want := all[i].bad == api.OK && all[j].bad == api.OK && all[i].text == all[j].text
			if got := Same(a, b); got != want {
				t.Errorf("Same(%#v, %#v): %t", a, b, got)
			}
		}
	}
}

// P17.4: also of values whose JSON is longer than may be.
func TestSameLong(t *testing.T) {
	long := func() []any {
		l := make([]any, 64)
		for i := range l {
			l[i] = []any{strings.Repeat("a", 1000), i}
		}
		return l
	}
	a, b := long(), long()
	if !Same(a, b) || !Same(strings.Repeat("a", 1<<20), strings.Repeat("a", 1<<20)) {
		t.Error("not the same")
	}
	b[63].([]any)[1] = 0
	if Same(a, b) || Same(a, a[:63]) || Same(strings.Repeat("a", 1<<20), strings.Repeat("a", 1<<20)+"b") {
		t.Error("the same")
	}
}

// Rule 3: no argument is changed, and what lies behind a list is not read.
func TestArguments(t *testing.T) {
	list := []any{1, int8(1), "x"}
	object := []Pair{{"l", list[:1]}, {"l", int8(1)}, {"\xff", 1.5}}
	v := []any{object[:1], list[:1], many('[', 65)}
	if s, bad := Put(v[:2]); s != `[{"l":[1]},[1]]` || bad != api.OK {
		t.Errorf("%q, %d", s, int(bad))
	}
	if bad := Check(v[:2]); bad != api.OK || !Same(v[:2], []any{[]Pair{{"l", []any{1}}}, []any{1}}) {
		t.Errorf("%d", int(bad))
	}
	if _, is := Find(object[:0], "l"); is {
		t.Error("found")
	}
	if x, is := Find(object[:1], "l"); !is || !Same(x, []any{1}) {
		t.Errorf("%#v, %t", x, is)
	}
	if !reflect.DeepEqual(list, []any{1, int8(1), "x"}) || len(object) != 3 || object[2].Name != "\xff" || len(v) != 3 {
		t.Errorf("%#v", v)
	}
}

// Rule 3: what is found is new memory, however deep.
func TestFindNew(t *testing.T) {
	make1 := func() []Pair {
		inner := []any{1, "a"}
		wide := make([]any, 3000)
		wide[2999] = []any{1}
		return []Pair{{"x", []any{inner, inner, []Pair{{"y", inner}, {"z", nested("[{[{[{", 1)}}}}, {"wide", wide}}
	}
	object, want := make1(), make1()
	x, _ := Find(object, "x")
	if !reflect.DeepEqual(x, want[0].V) {
		t.Fatalf("%#v", x)
	}
	l := x.([]any)
	l[0].([]any)[0] = 2
	if l[1].([]any)[0] != 1 || l[2].([]Pair)[0].V.([]any)[0] != 1 {
		t.Error("two lists of an answer are one")
	}
	l[2].([]Pair)[0].V.([]any)[1] = "b"
	l[2].([]Pair)[0].Name = "other"
	l[2].([]Pair)[1].V.([]any)[0].([]Pair)[0].V.([]any)[0].([]Pair)[0].Name = "other"
	l[1] = nil
	_ = append(l[:1], 7)
	w, _ := Find(object, "wide")
	w.([]any)[2999].([]any)[0] = 2
	if !reflect.DeepEqual(object, want) {
		t.Errorf("%#v", object)
	}
	spare := append(make([]any, 0, 8), 1)
	y, _ := Find([]Pair{{"a", spare}}, "a")
	_ = append(y.([]any), 9)
	if spare[:2][1] != nil {
		t.Error("written behind a list")
	}
	for _, v := range []any{[]any(nil), []any{}, []Pair(nil), []Pair{}} {
		if y, is := Find([]Pair{{"a", v}}, "a"); !reflect.DeepEqual(y, v) || !is {
			t.Errorf("%#v: %#v", v, y)
		}
	}
}

// Rule 3: texts are new memory, too.
func TestTextsNew(t *testing.T) {
	same := func(a, b string) bool { return unsafe.StringData(a) == unsafe.StringData(b) }
	s := strings.Repeat("a", 10)
	x, _ := Text(s)
	y, _ := Find([]Pair{{"a", s}}, "a")
	z, _ := Find([]Pair{{"a", []any{[]Pair{{s, s}}}}}, "a")
	p := z.([]any)[0].([]Pair)[0]
	for i, got := range []string{x, MustText(s), y.(string), p.Name, p.V.(string)} {
		if got != s || same(got, s) {
			t.Errorf("%d: %q", i, got)
		}
	}
	text := `["abcdef",{"ghi":1}]`
	v, _, _ := Take(text)
	w, _, _ := Take(text)
	if a, b := v.([]any), w.([]any); same(a[0].(string), text[2:]) || same(a[0].(string), b[0].(string)) || same(a[1].([]Pair)[0].Name, text[12:]) {
		t.Error("a text of a text")
	}
}

// Rule 1: lists that stand in themselves, or in more places than can be gone
// through, or very deep: each call ends.
func TestEndless(t *testing.T) {
	self := make([]any, 3)
	self[0], self[1], self[2] = self, self, 1
	own := make([]Pair, 2)
	own[0], own[1] = Pair{"a", own}, Pair{"b", self}
	var double any = 1
	for range 200 {
		double = []any{double, double}
	}
	var deep any = 1
	for range 3 << 20 {
		deep = []any{deep}
	}
	var wide any = self
	wide = append(make([]any, 1<<21), wide)
	for i, v := range []any{self, own, double, deep, wide} {
		want := api.ErrDeep
		if i == 4 {
			want = api.ErrMany
		}
		if bad := Check(v); bad != want {
			t.Errorf("%d: %d", i, int(bad))
		}
		if s, bad := Put(v); s != "" || bad != want {
			t.Errorf("%d: %q, %d", i, s, int(bad))
		}
		if Same(v, v) {
			t.Errorf("%d", i)
		}
		x, is := Find([]Pair{{"a", v}}, "a")
		if !is || reflect.TypeOf(x) != reflect.TypeOf(v) || reflect.ValueOf(x).Len() != reflect.ValueOf(v).Len() {
			t.Errorf("%d: %T, %t", i, x, is)
		}
	}
}

// P17.1, P17.2, P17.4: as many as may be, of which few are kept.
func TestWide(t *testing.T) {
	var full any = "a"
	for range 4 {
		l := make([]any, 64)
		for i := range l {
			l[i] = full
		}
		full = l
	}
	if bad := Check(full); bad != api.OK {
		t.Errorf("%d", int(bad))
	}
	if s, bad := Put(full); s != "" || bad != api.ErrLong {
		t.Errorf("%d bytes, %d", len(s), int(bad))
	}
	if !Same(full, full) {
		t.Error("not the same")
	}
}

// P17.5, P17.3: values come back, also of their JSON with blanks.
func TestBack(t *testing.T) {
	for _, v := range []any{[]Pair{{"name", "a"}, {"list", []any{1, nil}}}, many('{', 64), many('[', 64), nested("{[{[", "x"), []any{most, -most, "\x00\u2028\U0010ffff", true, false, []any{}, []Pair{}}} {
		s, bad := Put(v)
		var spread strings.Builder
		enc := json.NewEncoder(&spread)
		enc.SetIndent("\t", " \r")
		enc.SetEscapeHTML(true)
		if err := enc.Encode(json.RawMessage(s)); err != nil || bad != api.OK {
			t.Fatal(s, err, bad)
		}
		for _, text := range []string{s, spread.String()} {
			back, at, bad := Take(text)
			if !reflect.DeepEqual(back, v) || at != len(text) || bad != api.OK {
				t.Errorf("%q: %#v, %d, %d", text, back, at, int(bad))
			}
		}
	}
}

// The limits that the chapter names.
func TestLimits(t *testing.T) {
	if api.MaxMeta != 4096 || greatest != most || deepest != 4 || widest != 64 {
		t.Error(api.MaxMeta, greatest, deepest, widest)
	}
}
