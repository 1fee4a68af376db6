package tests

import (
	"fmt"
	"runtime"
	"slices"
	"strings"
	"sync"
	"testing"
	"time"

	"loop.example/g00147/impl"
)

// A benchRow is a text that grows by lines which mostly make sense, with the
// answers that the account gives.
type benchRow struct {
	state   uint64
	account *benchAccount
	lines   []string
	answers []string
	met     map[string]int
}

func newBenchRow(seed uint64, met map[string]int) *benchRow {
	return &benchRow{state: seed, account: newBenchAccount(), met: met}
}

func (r *benchRow) text() string { return strings.Join(r.lines, "\n") }

func (r *benchRow) want() string {
	if len(r.answers) == 0 {
		return ""
	}
	return strings.Join(r.answers, "\n") + "\n"
}

// add tells the answer; a line without a byte has none.
func (r *benchRow) add(line string) string {
	r.lines = append(r.lines, line)
	if line == "" {
		return ""
	}
	answer := r.account.answer(line)
	r.answers = append(r.answers, answer)
	word, _, _ := strings.Cut(line, " ")
	kind := answer
	if answer[0] >= '0' && answer[0] <= '9' {
		kind = "numbers"
	}
	if answer == "error 0" {
		word = "any"
	}
	r.met[word+" "+kind]++
	return answer
}

func (r *benchRow) any(n int64) int64 { return mixed(&r.state) % n }

// idOf is mostly that of a connection.
func (r *benchRow) idOf() int64 {
	conns := r.account.engine.Conns
	if len(conns) == 0 || r.any(25) == 0 {
		return r.any(60) - 1
	}
	return conns[r.any(int64(len(conns)))].Id
}

// flightOf is mostly a part of what is in flight.
func (r *benchRow) flightOf(id int64) int64 {
	for _, c := range r.account.engine.Conns {
		if c.Id == id && c.Cc.Flight > 0 && r.any(12) > 0 {
			return 1 + r.any(c.Cc.Flight)
		}
	}
	return r.any(3000) - 1
}

// inFlight is mostly a connection that has something in flight.
func (r *benchRow) inFlight() int64 {
	for range 8 {
		id := r.idOf()
		if i := numberOf(r.account.engine, id); i >= 0 && r.account.engine.Conns[i].Cc.Flight > 0 {
			return id
		}
	}
	return r.idOf()
}

func (r *benchRow) open() string {
	leaves := impl.Leaves(r.account.engine.Lend.Tree)
	leaf, place, kind := leaves[r.any(int64(len(leaves)))], r.any(2), 1+r.any(2)
	switch r.any(30) {
	case 0:
		leaf = r.any(5) - 1
	case 1:
		place = 3*r.any(2) - 1
	case 2:
		kind = 3 * r.any(2)
	}
	return fmt.Sprint("open ", r.any(60), " ", leaf, " ", place, " ", kind)
}

func (r *benchRow) class() string {
	tree := r.account.engine.Lend.Tree
	parent := r.any(int64(len(tree)))
	ceil := tree[parent].Ceil - r.any(3)
	rate := r.any(impl.Spare(tree, parent) + 2)
	return fmt.Sprint("class ", parent-r.any(4)/3, " ", rate, " ", ceil, " ", 1499+r.any(20000))
}

func (r *benchRow) wait() string {
	ns := r.any([]int64{1000, 2000000, 90000000, 3 * billion}[r.any(4)])
	if r.any(20) == 0 {
		ns = impl.MaxTime - r.account.engine.Now + r.any(3) - 1
	}
	return fmt.Sprint("wait ", ns-r.any(200)/199)
}

func (r *benchRow) next() string {
	switch r.any(40) {
	case 0:
		return ""
	case 1:
		return []string{" ", "grant ", "send 1", "ack 01 1", "place +1", "Wait 5", "window 1 1", "close -0", "x", "class 0 1 1", "switch 1  2"}[r.any(11)]
	case 2, 3, 4, 5:
		return r.open()
	case 6, 7, 8, 9, 10, 11, 12, 13:
		return fmt.Sprint("send ", r.idOf(), " ", anySize(&r.state)+r.any(40)/39*1500)
	case 14, 15, 16, 17, 18, 19:
		return "grant"
	case 20, 21:
		return "grants"
	case 22, 23, 24, 25:
		id := r.inFlight()
		return fmt.Sprint("ack ", id, " ", r.flightOf(id))
	case 26, 27:
		id := r.inFlight()
		return fmt.Sprint("lose ", id, " ", r.flightOf(id))
	case 28:
		return fmt.Sprint("close ", r.idOf())
	case 29, 30:
		return fmt.Sprint("switch ", r.idOf(), " ", 1+r.any(2)+r.any(10)/9)
	case 31, 32, 33:
		return r.wait()
	case 34, 35, 36:
		return fmt.Sprint("window ", r.idOf())
	case 37, 38:
		return fmt.Sprint("place ", r.any(9)/2-1)
	}
	if r.any(4) > 0 && len(r.lines) > 20 {
		return "grant"
	}
	return r.class()
}

// flush is what shows most of what the lines ahead have done.
func (r *benchRow) flush() {
	r.add("place 0")
	r.add("place 1")
	for _, c := range r.account.engine.Conns[:min(6, len(r.account.engine.Conns))] {
		r.add(fmt.Sprint("window ", c.Id))
	}
	r.add("grants")
}

func TestBenchRows(t *testing.T) {
	met := map[string]int{}
	for k := range 400 {
		r := newBenchRow(uint64(15000+k), met)
		for range 180 {
			r.add(r.next())
		}
		r.flush()
		checkBench(t, r.text(), r.want())
		// What comes later changes none of the answers ahead of it.
		at := int(r.any(180))
		answered := len(slices.DeleteFunc(slices.Clone(r.lines[:at]), func(line string) bool { return line == "" }))
		ahead := impl.Bench(strings.Join(r.lines[:at], "\n"))
		if !strings.HasPrefix(r.want(), ahead) || strings.Count(ahead, "\n") != answered {
			t.Fatalf("%q is no beginning of %q", ahead, r.want())
		}
	}
	for _, name := range []string{
		"open ok", "open error 2", "open error 3", "open error 4", "open error 5", "send ok", "send error 2", "send error 7",
		"grant numbers", "grant none", "grants numbers", "ack ok", "ack error 2", "ack error 7", "lose ok", "lose error 2", "lose error 7",
		"close ok", "close error 2", "switch ok", "switch error 2", "switch error 5", "wait ok", "wait error 7", "window numbers", "window error 2",
		"place numbers", "place error 4", "class numbers", "class error 1", "any error 0",
	} {
		if met[name] < 100 {
			t.Errorf("%s: met %d times", name, met[name])
		}
	}
}

// Many are opened first, and all of the rest is about them.
func TestBenchFullRows(t *testing.T) {
	met := map[string]int{}
	for k := range 20 {
		r := newBenchRow(uint64(15600+k), met)
		for range 60 {
			r.add(r.open())
		}
		for range 125 {
			line := r.next()
			if strings.HasPrefix(line, "class") {
				line = r.open()
			}
			r.add(line)
		}
		r.flush()
		checkBench(t, r.text(), r.want())
	}
	if met["open error 6"] < 10 {
		t.Fatal(met)
	}
}

// One line less or more among the others changes only what it has done itself:
// a line that only asks, or is none, can go.
func TestBenchLinesThatOnlyAsk(t *testing.T) {
	for k := range 40 {
		r := newBenchRow(uint64(15700+k), map[string]int{})
		var lines, answers []string
		for range 120 {
			line := r.next()
			if answer := r.add(line); answer != "" {
				lines, answers = append(lines, line), append(answers, answer)
			}
			ask := []string{"place 0", "place 7", "window 3", "window 99", "error 0", "Grant", "send 3", "wait -1", "open -1 0 0 1", "class 0 2 1 1500"}[r.any(10)]
			if len(lines) < 190 && r.any(2) == 0 {
				lines, answers = append(lines, ask), append(answers, r.account.answer(ask))
			}
		}
		checkBench(t, strings.Join(lines, "\n"), strings.Join(answers, "\n")+"\n")
		checkBench(t, r.text(), r.want())
	}
}

// garbled has some bytes changed, put in or taken out.
func garbled(state *uint64, text string) string {
	const signs = "  \n\n--+00123459agrant \t\r\x00\xff\x80"
	list := []byte(text)
	for range 1 + mixed(state)%12 {
		at := int(mixed(state) % int64(len(list)+1))
		sign := signs[mixed(state)%int64(len(signs))]
		switch {
		case mixed(state)%3 == 0:
			list = slices.Insert(list, at, sign)
		case at == len(list):
		case mixed(state)%2 == 0:
			list[at] = sign
		default:
			list = slices.Delete(list, at, at+1)
		}
	}
	return string(list)
}

func TestBenchGarbled(t *testing.T) {
	state := uint64(158)
	for k := range 150 {
		r := newBenchRow(uint64(15800+k), map[string]int{})
		for range 60 {
			r.add(r.next())
		}
		for range 10 {
			checkAnyBench(t, garbled(&state, r.text()))
		}
	}
}

// Bytes without any sense to them.
func TestBenchAnyBytes(t *testing.T) {
	state := uint64(159)
	for range 3000 {
		list := make([]byte, mixed(&state)%300)
		for i := range list {
			list[i] = byte(mixed(&state))
			if mixed(&state)%4 == 0 {
				list[i] = " \n"[mixed(&state)%2]
			}
		}
		checkAnyBench(t, string(list))
	}
}

// What one text comes to hangs on no other one, however many there are at once.
func TestBenchAtOnce(t *testing.T) {
	var texts, wants []string
	for k := range 6 {
		r := newBenchRow(uint64(15900+k), map[string]int{})
		for range 100 {
			r.add(r.next())
		}
		texts, wants = append(texts, r.text()), append(wants, r.want())
	}
	before := runtime.NumGoroutine()
	var workers sync.WaitGroup
	wrong := make([]int, 8)
	for k := range wrong {
		workers.Go(func() {
			for range 5 {
				for i, text := range texts {
					if impl.Bench(text) != wants[i] {
						wrong[k]++
					}
				}
			}
		})
	}
	workers.Wait()
	if slices.Max(wrong) > 0 {
		t.Fatal(wrong)
	}
	// Who is done may still be counted for a moment.
	for range 5000 {
		if runtime.NumGoroutine() <= before {
			return
		}
		time.Sleep(time.Millisecond)
	}
	t.Fatal(before, runtime.NumGoroutine())
}
