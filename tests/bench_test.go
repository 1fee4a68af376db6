package tests

import (
	"fmt"
	"regexp"
	"slices"
	"strconv"
	"strings"
	"sync"
	"testing"

	"loop.example/g00147/impl"
)

// The plain account of the chapter: lines are held against the table's as
// patterns, and an engine is kept by the functions of chapter 14.

// A benchForm is one line of the table.
type benchForm struct {
	words   string
	pattern *regexp.Regexp
	answer  func(e *impl.Engine, n []int64) string
}

// formOf has an N for each number.
func formOf(words string, answer func(e *impl.Engine, n []int64) string) benchForm {
	pattern := strings.ReplaceAll(words, "N", `(0|-?[1-9][0-9]{0,17})`)
	return benchForm{words, regexp.MustCompile(`\A` + pattern + `\z`), answer}
}

func okByWords(e *impl.Engine, next impl.Engine, code int64) string {
	if code != 0 {
		return fmt.Sprint("error ", code)
	}
	*e = next
	return "ok"
}

func grantByWords(e *impl.Engine, _ []int64) string {
	next, id, n := impl.Grant(*e)
	if id < 0 {
		return "none"
	}
	*e = next
	return fmt.Sprint(id, " ", n)
}

func grantsByWords(e *impl.Engine, _ []int64) string {
	times, bytes := 0, 0
	for times < 1000 {
		answer := grantByWords(e, nil)
		if answer == "none" {
			break
		}
		n, _ := strconv.Atoi(strings.Fields(answer)[1])
		times, bytes = times+1, bytes+n
	}
	return fmt.Sprint(times, " ", bytes)
}

func windowByWords(e *impl.Engine, n []int64) string {
	for _, c := range e.Conns {
		if c.Id == n[0] {
			return fmt.Sprint(c.Cc.Window, " ", c.Cc.Flight)
		}
	}
	return "error 2"
}

func placeByWords(e *impl.Engine, n []int64) string {
	for i, p := range e.Places {
		if int64(i) == n[0] {
			return fmt.Sprint(p.Window, " ", p.Flight)
		}
	}
	return "error 4"
}

func classByWords(e *impl.Engine, n []int64) string {
	tree := append(slices.Clone(e.Lend.Tree), impl.Class{Parent: n[0], Rate: n[1], Ceil: n[2], Burst: n[3]})
	if impl.TreeOk(tree) != 0 {
		return "error 1"
	}
	*e, _ = impl.NewEngine(tree, 2)
	return fmt.Sprint(len(tree))
}

// benchForms are made once: their patterns take a while.
var benchForms = sync.OnceValue(func() []benchForm {
	return []benchForm{
		formOf("open N N N N", func(e *impl.Engine, n []int64) string {
			next, code := impl.Open(*e, n[0], n[1], n[2], n[3])
			return okByWords(e, next, code)
		}),
		formOf("send N N", func(e *impl.Engine, n []int64) string {
			next, code := impl.Submit(*e, n[0], n[1])
			return okByWords(e, next, code)
		}),
		formOf("grant", grantByWords),
		formOf("grants", grantsByWords),
		formOf("ack N N", func(e *impl.Engine, n []int64) string {
			next, code := impl.Acked(*e, n[0], n[1])
			return okByWords(e, next, code)
		}),
		formOf("lose N N", func(e *impl.Engine, n []int64) string {
			next, code := impl.Lost(*e, n[0], n[1])
			return okByWords(e, next, code)
		}),
		formOf("close N", func(e *impl.Engine, n []int64) string {
			next, code := impl.Close(*e, n[0])
			return okByWords(e, next, code)
		}),
		formOf("switch N N", func(e *impl.Engine, n []int64) string {
			next, code := impl.Switch(*e, n[0], n[1])
			return okByWords(e, next, code)
		}),
		formOf("wait N", func(e *impl.Engine, n []int64) string {
			next, code := impl.Forward(*e, n[0])
			return okByWords(e, next, code)
		}),
		formOf("window N", windowByWords),
		formOf("place N", placeByWords),
		formOf("class N N N N", classByWords),
	}
})

// A benchAccount goes on from line to line.
type benchAccount struct {
	engine impl.Engine
	forms  []benchForm
}

func newBenchAccount() *benchAccount {
	e, _ := impl.NewEngine([]impl.Class{{Parent: -1, Rate: 1000000, Ceil: 1000000, Burst: 15000}}, 2)
	return &benchAccount{engine: e, forms: benchForms()}
}

func (b *benchAccount) answer(line string) string {
	for _, form := range b.forms {
		found := form.pattern.FindStringSubmatch(line)
		if found == nil {
			continue
		}
		var numbers []int64
		for _, word := range found[1:] {
			n, _ := strconv.ParseInt(word, 10, 64)
			numbers = append(numbers, n)
		}
		return form.answer(&b.engine, numbers)
	}
	return "error 0"
}

func linesByWords(text string) []string {
	list := strings.SplitAfter(text, "\n")
	if list[len(list)-1] == "" {
		list = list[:len(list)-1]
	}
	for i, line := range list {
		list[i] = strings.TrimSuffix(line, "\n")
	}
	return list
}

func wantBench(text string) string {
	lines := linesByWords(text)
	if len(text) > 20000 || len(lines) > 200 {
		return ""
	}
	account := newBenchAccount()
	want := ""
	for _, line := range lines {
		if line != "" {
			want += account.answer(line) + "\n"
		}
	}
	return want
}

func checkBench(t *testing.T, text string, want string) {
	t.Helper()
	if got := impl.Bench(text); got != want {
		t.Fatalf("Bench(%.300q) = %.300q, not %.300q", text, got, want)
	}
	if account := wantBench(text); account != want {
		t.Fatalf("the account tells %.300q of %.300q, not %.300q", account, text, want)
	}
}

// checkAnyBench is for a text whose answers nobody has written down.
func checkAnyBench(t *testing.T, text string) string {
	t.Helper()
	want := wantBench(text)
	checkBench(t, text, want)
	return want
}

// A talk is lines with the answer to each.
type talk [][2]string

func (x talk) lines() []string {
	var list []string
	for _, pair := range x {
		list = append(list, pair[0])
	}
	return list
}

func (x talk) answers() string {
	answers := ""
	for _, pair := range x {
		answers += pair[1] + "\n"
	}
	return answers
}

// checkTalk also wants the answers ahead to stay the same whatever comes later.
func checkTalk(t *testing.T, x talk) {
	t.Helper()
	whole := strings.Join(x.lines(), "\n")
	checkBench(t, whole, x.answers())
	checkBench(t, whole+"\n", x.answers())
	if 2*len(x) < impl.MaxLines {
		checkBench(t, "\n"+strings.Join(x.lines(), "\n\n"), x.answers())
	}
	for i := range x {
		checkBench(t, strings.Join(x.lines()[:i], "\n"), x[:i].answers())
	}
}

// repeated is a talk of so many lines with one answer.
func repeated(n int, line string, answer string) talk {
	return slices.Repeat(talk{{line, answer}}, n)
}

func TestBenchLimits(t *testing.T) {
	if impl.MaxText != 20000 || impl.MaxLines != 200 {
		t.Fatal(impl.MaxText, impl.MaxLines)
	}
}

// Two share the one class: in turn until its burst is spent, and then just what
// its rate brings, which is a byte in a thousand nanoseconds.
func TestBenchTwoShareAClass(t *testing.T) {
	x := talk{{"open 1 0 0 1", "ok"}, {"open 2 0 1 2", "ok"}}
	for range 8 {
		x = append(x, talk{{"send 1 1500", "ok"}, {"send 2 1500", "ok"}}...)
	}
	for range 5 {
		x = append(x, talk{{"grant", "1 1500"}, {"grant", "2 1500"}}...)
	}
	x = append(x, talk{
		{"grant", "none"}, {"grants", "0 0"},
		{"window 1", "15000 7500"}, {"window 2", "15000 7500"}, {"place 0", "60000 7500"}, {"place 1", "60000 7500"},
		{"wait 1499999", "ok"}, {"grant", "none"}, {"wait 1", "ok"}, {"grant", "1 1500"}, {"grant", "none"},
		{"wait 1500000", "ok"}, {"grant", "2 1500"}, {"grant", "none"},
		{"wait 4499999", "ok"}, {"grants", "2 3000"}, {"wait 1", "ok"}, {"grants", "1 1500"},
		{"wait 1000000000", "ok"}, {"grants", "1 1500"}, {"grant", "none"},
		{"window 1", "15000 12000"}, {"window 2", "15000 12000"},
	}...)
	checkTalk(t, x)
}

func TestBenchByHand(t *testing.T) {
	checkTalk(t, talk{
		{"open 7 0 1 1", "ok"}, {"window 7", "15000 0"}, {"place 0", "60000 0"}, {"place 1", "60000 0"},
		{"send 7 1500", "ok"}, {"send 7 1000", "ok"}, {"send 7 1", "ok"}, {"window 7", "15000 0"},
		{"grant", "7 1500"}, {"window 7", "15000 1500"}, {"place 1", "60000 1500"}, {"place 0", "60000 0"},
		{"grants", "2 1001"}, {"window 7", "15000 2501"},
		{"ack 7 1500", "ok"}, {"window 7", "16500 1001"}, {"place 1", "60037 1001"},
		{"lose 7 1000", "ok"}, {"window 7", "8250 1"}, {"place 1", "30018 1"},
		{"open 3 0 1 2", "ok"}, {"open 9 0 0 2", "ok"},
		{"send 3 1200", "ok"}, {"grant", "3 1200"}, {"place 1", "30018 1201"},
		{"lose 3 1200", "ok"}, {"window 3", "10500 0"}, {"place 1", "15009 1"},
		{"switch 7 2", "ok"}, {"window 7", "7504 1"}, {"switch 3 1", "ok"}, {"window 3", "7504 0"},
		{"switch 9 1", "ok"}, {"window 9", "15000 0"},
		{"close 7", "ok"}, {"window 7", "error 2"}, {"place 1", "15009 0"}, {"send 7 1", "error 2"},
		{"open 7 0 0 2", "ok"}, {"window 7", "15000 0"}, {"place 0", "60000 0"},
	})
}

// The curve of the second controller goes by the time of the bench.
func TestBenchCurveByHand(t *testing.T) {
	checkTalk(t, talk{
		{"open 0 0 0 2", "ok"}, {"send 0 1500", "ok"}, {"send 0 1500", "ok"}, {"send 0 1500", "ok"}, {"grants", "3 4500"},
		{"lose 0 1500", "ok"}, {"window 0", "10500 3000"},
		{"wait 5000000", "ok"}, {"ack 0 1500", "ok"}, {"window 0", "10613 1500"},
		{"wait 1957000000", "ok"}, {"ack 0 1500", "ok"}, {"window 0", "15000 0"},
		// 30000, and to it twice 1500 times 1500 / Window, rounded down.
		{"place 0", "30149 0"},
	})
}

// The window of a connection and that of a place hold up a grant each by itself.
func TestBenchGrantsWhatIsPermitted(t *testing.T) {
	x := talk{{"class 0 500000 1000000 1000000", "2"}, {"class 0 500000 1000000 1000000", "3"}}
	// The first class has but its burst of 15000: it is what all share.
	x = append(x, talk{{"open 4 1 0 1", "ok"}, {"open 5 2 0 1", "ok"}}...)
	x = append(x, repeated(11, "send 4 1500", "ok")...)
	x = append(x, talk{{"grants", "10 15000"}, {"wait 15000000", "ok"}, {"grants", "0 0"}, {"window 4", "15000 15000"}}...)
	x = append(x, talk{{"send 5 1500", "ok"}, {"grant", "5 1500"}, {"grant", "none"}, {"ack 4 1", "ok"}, {"grant", "none"}}...)
	x = append(x, talk{{"ack 4 1499", "ok"}, {"window 4", "16500 13500"}, {"grant", "4 1500"}, {"grant", "none"}}...)
	checkTalk(t, x)
	// Four losses bring the place down to 3750, and two each of the connections.
	x = talk{{"open 4 0 1 1", "ok"}, {"open 5 0 1 1", "ok"}, {"send 4 500", "ok"}, {"send 5 500", "ok"}, {"grants", "2 1000"}}
	x = append(x, talk{{"lose 4 100", "ok"}, {"lose 4 100", "ok"}, {"lose 5 100", "ok"}, {"lose 5 100", "ok"}}...)
	x = append(x, talk{{"place 1", "3750 600"}, {"window 4", "3750 300"}, {"window 5", "3750 300"}}...)
	x = append(x, talk{{"send 4 1500", "ok"}, {"send 5 1500", "ok"}, {"send 4 150", "ok"}, {"send 5 151", "ok"}}...)
	x = append(x, talk{{"grant", "4 1500"}, {"grant", "5 1500"}, {"place 1", "3750 3600"}, {"grants", "1 150"}, {"grant", "none"}}...)
	x = append(x, talk{{"window 5", "3750 1800"}, {"place 1", "3750 3750"}, {"close 4", "ok"}, {"place 1", "3750 1800"}, {"grant", "5 151"}}...)
	checkTalk(t, x)
}

// A size that waits first and may not go holds up those behind it alone.
func TestBenchNothingIsPermitted(t *testing.T) {
	checkTalk(t, talk{{"grant", "none"}, {"grants", "0 0"}, {"open 1 0 0 1", "ok"}, {"grant", "none"}, {"grants", "0 0"}})
	x := talk{{"open 1 0 0 1", "ok"}, {"open 2 0 0 1", "ok"}}
	x = append(x, repeated(10, "send 1 1499", "ok")...)
	x = append(x, talk{{"grants", "10 14990"}, {"send 1 11", "ok"}, {"send 1 1", "ok"}, {"send 2 10", "ok"}}...)
	x = append(x, talk{{"grant", "2 10"}, {"grant", "none"}, {"grants", "0 0"}, {"grant", "none"}, {"wait 10999", "ok"}, {"grant", "none"}}...)
	x = append(x, talk{{"wait 1", "ok"}, {"grant", "none"}, {"window 1", "15000 14990"}, {"ack 1 1", "ok"}, {"grants", "1 11"}, {"grant", "none"}}...)
	checkTalk(t, append(x, talk{{"wait 1000", "ok"}, {"grants", "1 1"}, {"grants", "0 0"}}...))
}

// A text can't bring about a thousand grants, for each wants a line of its own:
// these are the most.
func TestBenchMostGrants(t *testing.T) {
	x := talk{{"open 1 0 0 1", "ok"}, {"open 2 0 0 1", "ok"}}
	x = append(x, repeated(100, "send 1 1", "ok")...)
	x = append(x, repeated(97, "send 2 2", "ok")...)
	checkTalk(t, append(x, talk{{"grants", "197 294"}}...))
	x = append(talk{{"open 1 0 0 1", "ok"}}, repeated(100, "send 1 1", "ok")...)
	x = append(x, talk{{"send 1 1", "error 6"}, {"send 1 0", "error 7"}, {"grants", "100 100"}, {"send 1 1", "ok"}, {"grants", "1 1"}}...)
	checkTalk(t, x)
}

func TestBenchCodesOfOpen(t *testing.T) {
	x := talk{
		{"open 5 0 0 1", "ok"}, {"open 5 0 0 1", "error 2"}, {"open 5 0 1 2", "error 2"},
		{"open -1 0 0 1", "error 2"}, {"open 0 0 0 1", "ok"}, {"open 1000000 0 0 1", "ok"}, {"open 1000001 0 0 1", "error 2"},
		{"open 6 1 0 1", "error 3"}, {"open 6 -1 0 1", "error 3"}, {"open 6 0 2 1", "error 4"}, {"open 6 0 -1 1", "error 4"},
		{"open 6 0 0 0", "error 5"}, {"open 6 0 0 3", "error 5"}, {"open 6 0 0 -1", "error 5"},
		{"open 5 1 2 3", "error 2"}, {"open 6 1 2 3", "error 3"}, {"open 6 0 2 3", "error 4"}, {"window 6", "error 2"},
		{"open 6 0 1 2", "ok"}, {"window 6", "15000 0"},
	}
	for id := range 36 {
		x = append(x, [2]string{fmt.Sprint("open ", 10+id, " 0 ", id%2, " ", 1+id%2), "ok"})
	}
	x = append(x, talk{
		{"open 50 0 0 1", "error 6"}, {"open 50 0 0 3", "error 5"}, {"open 10 0 0 1", "error 2"},
		{"close 10", "ok"}, {"open 50 0 0 1", "ok"}, {"open 10 0 0 1", "error 6"},
	}...)
	checkTalk(t, x)
}

func TestBenchCodesOfTheOthers(t *testing.T) {
	checkTalk(t, talk{
		{"send 1 1", "error 2"}, {"send 1 0", "error 2"}, {"ack 1 1", "error 2"}, {"lose 1 1", "error 2"},
		{"close 1", "error 2"}, {"switch 1 1", "error 2"}, {"switch 1 0", "error 2"}, {"window 1", "error 2"},
		{"open 1 0 0 1", "ok"},
		{"send 1 0", "error 7"}, {"send 1 -1", "error 7"}, {"send 1 1501", "error 7"}, {"send 1 1", "ok"}, {"send 1 1500", "ok"},
		{"ack 1 1", "error 7"}, {"lose 1 1", "error 7"}, {"grants", "2 1501"},
		{"ack 1 0", "error 7"}, {"ack 1 -1", "error 7"}, {"ack 1 1502", "error 7"}, {"ack 2 1", "error 2"},
		{"lose 1 0", "error 7"}, {"lose 1 -1", "error 7"}, {"lose 1 1502", "error 7"}, {"lose 2 1", "error 2"},
		{"ack 1 1500", "ok"}, {"ack 1 2", "error 7"}, {"lose 1 2", "error 7"}, {"lose 1 1", "ok"}, {"lose 1 1", "error 7"},
		{"switch 1 0", "error 5"}, {"switch 1 3", "error 5"}, {"switch 1 -1", "error 5"}, {"switch 2 3", "error 2"},
		{"window -1", "error 2"}, {"window 0", "error 2"}, {"window 2", "error 2"}, {"window 1000001", "error 2"}, {"window 1", "8250 0"},
		{"close 1", "ok"}, {"close 1", "error 2"}, {"window 1", "error 2"},
		{"place -1", "error 4"}, {"place 0", "30018 0"}, {"place 1", "60000 0"}, {"place 2", "error 4"},
		{"wait -1", "error 7"}, {"wait 1000000000000001", "error 7"}, {"wait 0", "ok"}, {"wait 999999999999999", "ok"},
		{"wait 2", "error 7"}, {"wait 1", "ok"}, {"wait 1", "error 7"}, {"wait 0", "ok"},
	})
}

// With one class more all begins anew: at 0, without connections, with two places.
func TestBenchClasses(t *testing.T) {
	checkTalk(t, talk{
		{"open 1 0 0 1", "ok"}, {"send 1 1000", "ok"}, {"send 1 1500", "ok"}, {"grant", "1 1000"}, {"lose 1 1", "ok"}, {"wait 1000000000000000", "ok"},
		{"place 0", "30000 999"}, {"class 0 1000000 1000000 3000", "2"}, {"place 0", "60000 0"}, {"place 1", "60000 0"}, {"place 2", "error 4"},
		{"window 1", "error 2"}, {"grant", "none"}, {"wait 1000000000000000", "ok"}, {"wait 1", "error 7"},
		{"open 1 0 0 1", "error 3"}, {"open 1 2 0 1", "error 3"}, {"open 1 1 0 1", "ok"}, {"send 1 1500", "ok"}, {"send 1 1500", "ok"}, {"send 1 1", "ok"},
		{"grants", "2 3000"}, {"grant", "none"},
		{"class 0 0 1000 1500", "3"}, {"window 1", "error 2"}, {"wait 1", "ok"},
		{"open 1 1 0 1", "ok"}, {"open 2 2 1 1", "ok"}, {"send 2 1500", "ok"}, {"send 2 1", "ok"}, {"grants", "1 1500"},
		// A Ceil of 1000 brings a byte in a thousandth of a second, which another one lends.
		{"wait 999999", "ok"}, {"grant", "none"}, {"wait 1", "ok"}, {"grant", "2 1"}, {"place 1", "60000 1501"},
		{"class 2 0 1000 1500", "4"}, {"open 2 2 1 1", "error 3"}, {"open 2 3 1 1", "ok"}, {"open 3 1 1 1", "ok"},
	})
}

// A class line that makes no tree does nothing.
func TestBenchNoTrees(t *testing.T) {
	ahead := talk{
		{"class 0 400000 900000 3000", "2"}, {"open 1 1 0 1", "ok"}, {"open 2 1 1 2", "ok"}, {"wait 999999999999990", "ok"},
		{"send 1 1500", "ok"}, {"send 2 1400", "ok"}, {"send 1 300", "ok"}, {"grants", "2 2900"}, {"lose 1 500", "ok"},
	}
	behind := talk{
		{"window 1", "7500 1000"}, {"window 2", "15000 1400"}, {"place 0", "30000 1000"}, {"place 1", "60000 1400"}, {"grant", "none"},
		{"wait 11", "error 7"}, {"wait 10", "ok"}, {"grant", "none"}, {"class 1 400000 900000 3000", "3"}, {"wait 11", "ok"},
	}
	for _, line := range []string{
		"class -1 1 1 1500", "class 2 1 1 1500", "class 3 1 1 1500", "class -2 1 1 1500", "class 999999999999999999 1 1 1500",
		"class 0 -1 1 1500", "class 0 2 1 1500", "class 0 0 -1 1500", "class 0 1 1000001 1500", "class 1 1 900001 1500",
		"class 0 1 1 1499", "class 0 1 1 1000000001", "class 0 1 1 0", "class 0 1 1 -1",
		"class 0 600001 700000 1500", "class 1 400001 400001 1500",
		"class 0 999999999999999999 999999999999999999 1500", "class 0 -999999999999999999 1 1500",
		"class 0 1 -999999999999999999 1500", "class 0 1 1 -999999999999999999", "class 0 1 1 999999999999999999",
	} {
		checkTalk(t, slices.Concat(ahead, talk{{line, "error 1"}}, behind))
		checkTalk(t, slices.Concat(ahead, repeated(3, line, "error 1"), behind))
	}
	checkTalk(t, slices.Concat(ahead, behind))
}

// A class whose numbers are just at their limits is taken.
func TestBenchClassesAtLimits(t *testing.T) {
	for _, x := range []talk{
		{{"class 0 0 0 1500", "2"}, {"class 0 0 0 1500", "3"}},
		{{"class 0 1000000 1000000 1000000000", "2"}, {"class 0 0 1 1500", "3"}, {"class 0 1 1 1500", "error 1"}},
		{{"class 0 400000 900000 3000", "2"}, {"class 0 600000 1000000 1500", "3"}, {"class 1 400000 900000 1500", "4"}, {"class 3 400000 400000 1500", "5"}},
	} {
		checkTalk(t, x)
	}
}

// As many as a tree may have are taken: 30 with the first one. One more is not.
func TestBenchClassesToMaxClasses(t *testing.T) {
	var star, chain talk
	for i := 1; i < impl.MaxClasses; i++ {
		star = append(star, [2]string{"class 0 1000 1000 1500", fmt.Sprint(i + 1)})
		chain = append(chain, [2]string{fmt.Sprintf("class %d 1000 %d 1500", i-1, 2000-i), fmt.Sprint(i + 1)})
	}
	for _, x := range []talk{star, chain} {
		x = append(x, talk{
			{"open 1 29 0 1", "ok"}, {"class 0 0 0 1500", "error 1"}, {"class 29 0 0 1500", "error 1"}, {"window 1", "15000 0"},
			{"open 2 30 0 1", "error 3"}, {"send 1 1500", "ok"}, {"grant", "1 1500"}, {"open 3 29 1 2", "ok"},
		}...)
		checkTalk(t, x)
	}
}

func TestBenchWithoutLines(t *testing.T) {
	checkBench(t, "", "")
	for n := range impl.MaxLines + 3 {
		checkBench(t, strings.Repeat("\n", n), "")
	}
}

func TestBenchLineEnds(t *testing.T) {
	for text, want := range map[string]string{
		"grant": "none\n", "grant\n": "none\n", "grant\n\n": "none\n", "\ngrant": "none\n", "\n\n\ngrant\n\n\n": "none\n",
		"grant\ngrants": "none\n0 0\n", "grant\n\ngrants\n": "none\n0 0\n", "x": "error 0\n", "x\n": "error 0\n", "x\ny": "error 0\nerror 0\n",
	} {
		checkBench(t, text, want)
	}
}

// Blanks, and bytes that look like them or like nothing.
func TestBenchBlanks(t *testing.T) {
	for _, line := range []string{
		" ", "  ", "   ", " grant", "grant ", " grant ", "  grant", "grant  ", "gr ant", "\t", "\tgrant", "grant\t", "\r", "grant\r", "\rgrant",
		"\x00", "grant\x00", "\x00grant", "\xff", "grant\xff", "\xffgrant", "\x80", "\xc2\xa0", "grant\xc2\xa0", "\xe2\x80\x83", "\xef\xbb\xbfgrant", "é", "gränt",
		"\v", "\f", "grant\v", "grant\f", "grant\b", "\x1b", "\x7f", "grant\x7f", "\x85", "grant\x85",
		"place  0", " place 0", "place 0 ", "place\t0", "place 0\t", "place \t0", "place 0\r", "place\r0", "place 0\x00", "place\x000",
		"place\xc2\xa00", "place 0\xff", "place \xff0", "place\x850", "place \xd9\xa0", "place \xef\xbc\x90",
		"open  1 0 0 1", "open 1  0 0 1", "open 1 0  0 1", "open 1 0 0  1", " open 1 0 0 1", "open 1 0 0 1 ", "open\t1 0 0 1", "open 1 0 0\t1", "open 1 0 0 1\r",
		"wait  5", "wait 5 ", " wait 5", "wait\v5", "place", "place ", "place  ", "wait", "wait ", "send 1 ", "send  1", "send 1",
	} {
		checkTalk(t, talk{{"place 0", "60000 0"}, {line, "error 0"}, {"grant", "none"}})
		checkTalk(t, talk{{line, "error 0"}})
	}
}

// A byte 13 or another one is no end of a line.
func TestBenchOtherEnds(t *testing.T) {
	for _, end := range []string{"\r", "\x00", "\v", "\f", "\xe2\x80\xa8", "\x85", ";", ","} {
		checkBench(t, "grant"+end+"grant", "error 0\n")
		checkBench(t, "place 0"+end+"place 1\ngrant", "error 0\nnone\n")
	}
	checkBench(t, "grant\r\ngrant\r\n", "error 0\nerror 0\n")
}

// Each byte there is, alone, in a word's stead, and ahead of and behind a word.
func TestBenchEachByte(t *testing.T) {
	for b := range 256 {
		s := string([]byte{byte(b)})
		for _, text := range []string{
			s, s + s, "grant" + s, s + "grant", "gr" + s + "ant", "grant" + s + "grants", "place" + s + "0", "place " + s, "place 0" + s, "place " + s + "0",
			"place 1" + s + "\ngrant", "window" + s + "1" + s + "grant", "open 1 0 0 1" + s + "window 1", "open" + s + "1 0 0 1\nwindow 1", "wait 1" + s + "1",
		} {
			checkAnyBench(t, text)
		}
	}
	checkBench(t, "place 0\nplace 1", "60000 0\n60000 0\n")
	checkBench(t, "wait -1", "error 7\n")
}

// lineSamples are lines that are answered otherwise than by an error, each
// behind the lines of ahead.
func lineSamples() (ahead talk, samples talk) {
	ahead = talk{{"open 1 0 0 1", "ok"}, {"send 1 1500", "ok"}, {"send 1 700", "ok"}, {"grant", "1 1500"}}
	samples = talk{
		{"open 2 0 1 2", "ok"}, {"send 1 9", "ok"}, {"grant", "1 700"}, {"grants", "1 700"}, {"ack 1 5", "ok"}, {"lose 1 5", "ok"}, {"close 1", "ok"},
		{"switch 1 2", "ok"}, {"wait 5", "ok"}, {"window 1", "15000 1500"}, {"place 0", "60000 1500"}, {"class 0 5 6 1500", "2"},
	}
	return ahead, samples
}

// behindSamples show what the line ahead of them has done.
func behindSamples() talk {
	return talk{
		{"window 1", "15000 1500"}, {"window 2", "error 2"}, {"place 0", "60000 1500"}, {"place 1", "60000 0"}, {"grant", "1 700"},
		{"wait 1000000000000000", "ok"}, {"ack 1 2200", "ok"}, {"class 0 1 1 1500", "2"},
	}
}

func TestBenchEachKind(t *testing.T) {
	ahead, samples := lineSamples()
	if len(samples) != 12 || len(benchForms()) != 12 {
		t.Fatal(samples)
	}
	for i, sample := range samples {
		if form := benchForms()[i]; !form.pattern.MatchString(sample[0]) {
			t.Fatal(form.words, sample)
		}
		checkTalk(t, slices.Concat(ahead, talk{sample}))
	}
}

// checkNoLine wants error 0, and the lines behind to be answered as if it were
// not there.
func checkNoLine(t *testing.T, line string) {
	t.Helper()
	ahead, _ := lineSamples()
	x := slices.Concat(ahead, talk{{line, "error 0"}}, behindSamples())
	checkBench(t, strings.Join(x.lines(), "\n"), x.answers())
	checkBench(t, line, "error 0\n")
	checkBench(t, line+"\n"+line+"\n", "error 0\nerror 0\n")
}

func TestBenchWordsTooFewAndTooMany(t *testing.T) {
	_, samples := lineSamples()
	for _, sample := range samples {
		words := strings.Split(sample[0], " ")
		for n := 1; n < len(words); n++ {
			checkNoLine(t, strings.Join(words[:n], " "))
			checkNoLine(t, strings.Join(words[n:], " "))
			checkNoLine(t, strings.Join(slices.Concat(words[:n], words[n+1:]), " "))
		}
		for _, more := range []string{"1", "0", "-1", "x", "", "grant", sample[0]} {
			checkNoLine(t, sample[0]+" "+more)
			checkNoLine(t, sample[0]+" "+more+" "+more)
			checkNoLine(t, more+" "+sample[0])
		}
	}
	checkNoLine(t, "grant"+strings.Repeat(" 1", 4000))
	checkNoLine(t, "open"+strings.Repeat(" 1", 4000))
}

func TestBenchFirstWords(t *testing.T) {
	_, samples := lineSamples()
	for _, sample := range samples {
		word, rest, _ := strings.Cut(sample[0], " ")
		if rest != "" {
			rest = " " + rest
		}
		others := []string{
			strings.ToUpper(word), strings.ToUpper(word[:1]) + word[1:], word[1:], word + "x", "x" + word, "-" + word, word + "-", word + word, word + "0",
			word + ".", "/" + word, "1", "0", "ok", "none", "error", "fill", "take", "new",
		}
		// A word that is one of the table's again would be another line.
		if word != "grants" {
			others = append(others, word[:len(word)-1])
		}
		if word != "grant" {
			others = append(others, word+"s")
		}
		if rest != "" {
			others = append(others, "")
		}
		for _, other := range others {
			checkNoLine(t, other+rest)
		}
		for i := range len(word) {
			checkNoLine(t, word[:i]+"_"+word[i+1:]+rest)
			checkNoLine(t, word[:i]+"_"+word[i:]+rest)
		}
	}
	for _, line := range []string{"grants 1", "grant 1", "switchto 1 2", "submit 1 9", "acked 1 5", "lost 1 5", "forward 5", "Grant", "GRANTS"} {
		checkNoLine(t, line)
	}
	// With a sign less or more, these two are one another.
	ahead, _ := lineSamples()
	checkTalk(t, slices.Concat(ahead, talk{{"grant", "1 700"}, {"grants", "0 0"}}))
}

// noNumbers are words that are none, for whatever reason.
func noNumbers() []string {
	return []string{
		"", "-", "+", "+1", "+0", "--1", "-+1", "1-", "1+", "01", "00", "000", "-0", "-00", "-01", "007", "a", "1a", "a1", "x", "1.0", "1.", ".1", "1,0",
		"0x1", "0X1", "0b1", "0o1", "1e0", "1e3", "1_0", "0_1", "_1", "1_", "1'", "NaN", "Inf", "\t1", "1\t", "1\r", "\r1", "1\x00", "\x001", "\xff", "1\xff", "\x80",
		"\xd9\xa1", "\xef\xbc\x91", "\xe2\x88\x921", "\xc2\xb9", "(1)", "\"1\"", "1/1", "/", ":", "1:", "1/", "grant",
		"1000000000000000000", "-1000000000000000000", "9999999999999999999", "-9999999999999999999", "1234567890123456789", "-1234567890123456789",
		"9223372036854775807", "-9223372036854775808", "9223372036854775808", "-9223372036854775809", "9223372036854775806", "-9223372036854775807",
		"18446744073709551615", "18446744073709551616", "18446744073709551617", "-18446744073709551615", "340282366920938463463374607431768211457",
		"0000000000000000001", "-0000000000000000001", "000000000000000001", "0000000000000000000", "10000000000000000000000000000000",
	}
}

// placesOfNumbers calls with each place of a number in each line, as what is
// ahead of it and what is behind it.
func placesOfNumbers(each func(ahead string, behind string)) {
	_, samples := lineSamples()
	for _, sample := range samples {
		words := strings.Split(sample[0], " ")
		for i := 1; i < len(words); i++ {
			behind := ""
			if i+1 < len(words) {
				behind = " " + strings.Join(words[i+1:], " ")
			}
			each(strings.Join(words[:i], " ")+" ", behind)
		}
	}
}

func TestBenchNoNumbers(t *testing.T) {
	places := 0
	placesOfNumbers(func(ahead string, behind string) {
		places++
		for _, word := range noNumbers() {
			checkNoLine(t, ahead+word+behind)
		}
		// As many digits as a text may have.
		for _, digit := range []string{"9", "1", "0"} {
			room := impl.MaxText - len(ahead) - len(behind)
			checkBench(t, ahead+strings.Repeat(digit, room)+behind, "error 0\n")
			checkBench(t, ahead+strings.Repeat(digit, room-1)+behind+"\n", "error 0\n")
			checkBench(t, ahead+"-"+strings.Repeat(digit, room-1)+behind, "error 0\n")
			checkBench(t, ahead+strings.Repeat(digit, room+1)+behind, "")
		}
	})
	if places != 4+2+2+2+1+2+1+1+1+4 {
		t.Fatal(places)
	}
}

// Numbers of up to 18 digits are numbers in every place; what they come to is
// told by the functions.
func TestBenchNumbers(t *testing.T) {
	ahead, _ := lineSamples()
	first := strings.Join(ahead.lines(), "\n") + "\n"
	behind := "\n" + strings.Join(behindSamples().lines(), "\n")
	placesOfNumbers(func(from string, to string) {
		for _, word := range []string{
			"0", "1", "-1", "2", "9", "-9", "10", "1499", "1500", "1501", "1000000", "1000001", "1000000000", "1000000001", "1000000000000001", "-1000000000000001",
			"2147483648", "4294967296", "-2147483649", "123456789012345678", "-123456789012345678", "100000000000000000", "-100000000000000000",
			"999999999999999999", "-999999999999999999", "900000000000000000",
		} {
			line := from + word + to
			answers := checkAnyBench(t, first+line+behind)
			answer := strings.Split(strings.TrimPrefix(answers, ahead.answers()), "\n")[0]
			if answer == "error 0" || answer == "" {
				t.Fatalf("%s: %s", line, answer)
			}
			if len(word) < 18 {
				continue
			}
			// So great a number is out of every range.
			if !strings.HasPrefix(answer, "error ") {
				t.Fatalf("%s: %s", line, answer)
			}
		}
	})
}

// checkCount wants as many answers as there are lines with a byte.
func checkCount(t *testing.T, text string, n int) {
	t.Helper()
	answers := checkAnyBench(t, text)
	if got := strings.Count(answers, "\n"); got != n {
		t.Fatalf("%d answers, not %d: %.300q", got, n, text)
	}
}

func TestBenchToMaxLines(t *testing.T) {
	for _, line := range []string{"place 0", "x", "grant", "open 1 0 0 1", " "} {
		full := strings.Repeat(line+"\n", impl.MaxLines)
		checkCount(t, full, 200)
		checkCount(t, full[:len(full)-1], 200)
		checkCount(t, full[:len(full)-len(line)-1], 199)
		checkCount(t, full+"\n", 0)
		checkCount(t, full+line, 0)
		checkCount(t, full+line+"\n", 0)
		checkCount(t, "\n"+full, 0)
		checkCount(t, "\n"+full[:len(full)-1], 0)
		checkCount(t, "\n"+full[:len(full)-len(line)-1], 199)
		checkCount(t, full+full, 0)
	}
}

// Lines without a byte count too.
func TestBenchBareLinesCount(t *testing.T) {
	for ahead := range impl.MaxLines + 2 {
		for _, behind := range []int{0, 1, 2, 198 - ahead, 199 - ahead, 200 - ahead, 201 - ahead} {
			if behind < 0 {
				continue
			}
			want := ""
			if ahead+1+max(behind-1, 0) <= 200 {
				want = "60000 0\n"
			}
			text := strings.Repeat("\n", ahead) + "place 0" + strings.Repeat("\n", behind)
			checkBench(t, text, want)
		}
	}
	pairs := strings.Repeat("grant\n\n", 100)
	checkCount(t, pairs, 100)
	checkCount(t, pairs+"grant", 0)
	checkCount(t, pairs+"\n", 0)
	checkCount(t, "\n"+pairs, 0)
}

func TestBenchToMaxText(t *testing.T) {
	long := strings.Repeat(strings.Repeat("x", 99)+"\n", 200)
	if len(long) != impl.MaxText {
		t.Fatal(len(long))
	}
	checkCount(t, long, 200)
	checkCount(t, long[:len(long)-1], 200)
	checkCount(t, "x"+long, 0)
	checkCount(t, "x"+long[:len(long)-1], 200)
	checkCount(t, long[:len(long)-1]+"xx", 0)
	for _, n := range []int{impl.MaxText - 1, impl.MaxText} {
		checkBench(t, strings.Repeat("x", n), "error 0\n")
		checkBench(t, strings.Repeat(" ", n), "error 0\n")
		checkBench(t, "grant\n"+strings.Repeat("x", n-6), "none\nerror 0\n")
		checkBench(t, strings.Repeat("x", n-6)+"\ngrant", "error 0\nnone\n")
		checkBench(t, strings.Repeat("\xff", n-1)+"\n", "error 0\n")
	}
	for _, n := range []int{impl.MaxText + 1, impl.MaxText + 2, 2 * impl.MaxText, 1 << 20} {
		checkBench(t, strings.Repeat("x", n), "")
		checkBench(t, strings.Repeat(" ", n), "")
		checkBench(t, strings.Repeat("\n", n), "")
		checkBench(t, "grant\n"+strings.Repeat("x", n-6), "")
		checkBench(t, strings.Repeat("x", n-6)+"\ngrant", "")
		checkBench(t, strings.Repeat("grant\n", n/6+1), "")
	}
}

// Bytes are counted, not runes.
func TestBenchCountsBytes(t *testing.T) {
	checkBench(t, strings.Repeat("é", impl.MaxText/2), "error 0\n")
	checkBench(t, strings.Repeat("é", impl.MaxText/2)+"\n", "")
	checkBench(t, strings.Repeat("é", impl.MaxText/2+1), "")
}
