package tests

import (
	"fmt"
	"math/rand/v2"
	"slices"
	"strings"
	"testing"

	"loop.example/quincunx/impl"
)

// said is a line, and its answer; a message is behind the reply, with a line end between.
type said struct {
	line   string
	answer string
}

func checkSession(t *testing.T, talk []said) {
	t.Helper()
	var lines []string
	want := ""
	for _, s := range talk {
		lines = append(lines, s.line)
		want += s.answer + "\n"
	}
	if got := impl.Session(lines); got != want {
		t.Errorf("%q: %q, not %q", lines, got, want)
	}
	if got := modelSession(lines); got != want {
		t.Errorf("%q: the model has %q, not %q", lines, got, want)
	}
}

// P49: the example of the document.
func TestP49Example(t *testing.T) {
	checkSession(t, []said{
		{"0 SET k hello", "ok"},
		{"0 APPEND k !", "6"},
		{"1 GETRANGE k -3 -1", "lo!"},
		{"0 RPUSH l a b c", "3"},
		{"0 LPUSH l x", "4"},
		{"0 LRANGE l 0 -1", "[x a b c]"},
		{"0 LREM l -1 b", "1"},
		{"0 SADD s b a b", "2"},
		{"0 SMEMBERS s", "[a b]"},
		{"0 ZADD z 5 b", "1"},
		{"0 ZADD z 2 c", "1"},
		{"0 ZINCRBY z 4 c", "6"},
		{"0 ZRANGE z 0 -1", "[b c]"},
		{"0 HSET h f 1", "1"},
		{"0 HINCRBY h f 41", "42"},
		{"1 WATCH k", "ok"},
		{"1 MULTI", "ok"},
		{"1 INCR n", "QUEUED"},
		{"0 SET k new", "ok"},
		{"1 EXEC", "none"},
		{"1 MULTI", "ok"},
		{"1 INCR n", "QUEUED"},
		{"1 GET k", "QUEUED"},
		{"1 EXEC", "(1, new)"},
		{"0 EXPIRE l 5", "1"},
		{"tick 4", "ok"},
		{"0 TTL l", "1"},
		{"tick 1", "ok"},
		{"0 EXISTS l k", "1"},
		{"0 LPUSH k x", "error kind"},
		{"1 SUBSCRIBE news", "1"},
		{"0 PUBLISH news hi", "1\nto 1 news hi"},
		{"fall 0 10 SET k lost", "ok"},
		{"0 GET k", "new"},
		{"less", "1"},
		{"0 KEYS *", "[h k n s z]"},
		{"what", "what"},
		{"0 NONE", "error unknown"},
	})
}

// P49: each kind of reply.
func TestP49Replies(t *testing.T) {
	checkSession(t, []said{
		{"0 LRANGE l 0 -1", "[]"},
		{"0 RPUSH l a", "1"},
		{"0 LRANGE l 0 -1", "[a]"},
		{"0 GET none", "none"},
		{"0 SET e ", "ok"},
		{"0 GET e", ""},
		{"0 INCRBY n -5", "-5"},
		{"0 MULTI", "ok"},
		{"0 EXEC", "()"},
		{"0 MULTI", "ok"},
		{"0 GET none", "QUEUED"},
		{"0 EXEC", "(none)"},
		{"0 MULTI", "ok"},
		{"0 SET k v", "QUEUED"},
		{"0 INCR k", "QUEUED"},
		{"0 LRANGE l 0 -1", "QUEUED"},
		{"0 GET none", "QUEUED"},
		{"0 GET e", "QUEUED"},
		{"0 DBSIZE", "QUEUED"},
		{"0 EXEC", "(ok, error number, [a], none, , 4)"},
		{"0 EXEC", "error alone"},
		{"0 SUBSCRIBE b", "1"},
		{"1 SUBSCRIBE b", "1"},
		{"0 PUBLISH b t", "2\nto 0 b t\nto 1 b t"},
		{"1 PUBLISH b ", "2\nto 0 b \nto 1 b "},
		{"1 PUBLISH a t", "0"},
		{"0 UNSUBSCRIBE b", "0"},
		{"1 PUBLISH b t", "1\nto 1 b t"},
		{"1 MULTI", "ok"},
		{"1 PUBLISH b t", "error words"},
		{"1 EXEC", "error gathered"},
	})
}

// P49: each kind of line.
func TestP49Lines(t *testing.T) {
	set := len(at(0, "SET k v").text())
	checkSession(t, []said{
		{"size", "0"},
		{"less", "0"},
		{"0 SET k v", "ok"},
		{"size", fmt.Sprint(set)},
		{"1 GET k", "v"},
		{"less", "0"},
		{"0 SET k v", "ok"},
		{"size", fmt.Sprint(2 * set)},
		{"less", "1"},
		{"size", fmt.Sprint(set)},
		{"0 EXPIRE k 3", "1"},
		{"tick 0", "ok"},
		{"tick -1", "ok"},
		{"tick 1000001", "ok"},
		{"0 TTL k", "3"},
		{"tick 2", "ok"},
		{"0 TTL k", "1"},
		{"tick 1", "ok"},
		{"0 TTL k", "-2"},
		{"less", "1"},
		{"0 SUBSCRIBE w", "1"},
		{"1 MULTI", "ok"},
		{"fall 1 0 SET k w", "ok"},
		{"1 EXEC", "error alone"},
		{"0 PUBLISH w t", "0"},
		{fmt.Sprintf("fall 1 %d SET k w", set-1), "ok"},
		{"0 GET k", "none"},
		{fmt.Sprintf("fall 1 %d SET k w", set), "ok"},
		{"0 GET k", "w"},
		{"fall 0 -1 DEL k", "ok"},
		{"0 GET k", "w"},
		{"fall 0 1000000000 DEL k", "ok"},
		{"0 GET k", "none"},
		{"fall 0 5 NONE", "ok"},
		{"fall 0 5 ", "ok"},
		{"0 ", "error unknown"},
		{"0  GET k", "error unknown"},
		{"0 GET k ", "error words"},
		{"0 GET " + longKey, "error key"},
	})
}

// P49: any other line, one whose client is none, and one whose words are no order.
func TestP49What(t *testing.T) {
	nine := strings.Repeat(" k", 9)
	for _, l := range []string{"", " ", " 1", "what", "what what", "0", "1", "2 GET k", "-1 GET k", "00 GET k", "01 GET k", "-0 GET k", "+1 GET k", "1000000000 GET k", "1000000001 GET k", "99999999999999999999 GET k", "x GET k", " 0 GET k", "GET k", "0GET k", "0\tGET k",
		"0" + nine, "0 SET k " + tooLong, "0 " + tooLong, "tick", "tick ", "tick x", "tick 1 ", "tick 1 1", "tick 01", "tick +1", "tick -0", "tick 1000000001", "tick  1", " tick 1", "Tick 1", "ticks 1", "TICK 1",
		"less ", " less", "less 1", "Less", "lesser", "size ", " size", "size 1", "SIZE", "fall", "fall ", "fall 0", "fall 0 5", "fall 0 x SET k v", "fall 0 05 SET k v", "fall 0 -0 SET k v", "fall 0  SET k v", "fall 2 5 SET k v", "fall -1 5 SET k v", "fall x 5 SET k v", "fall 0 SET k v", "fall 0 1000000001 SET k v", "fall 0 5" + nine, "fall 0 5 SET k " + tooLong, "Fall 0 5 SET k v", "fall  0 5 SET k v", "\n", "0\n", strings.Repeat(" ", 100000), strings.Repeat("x", 100000)} {
		checkSession(t, []said{{"0 SET k v", "ok"}, {"1 MULTI", "ok"}, {l, "what"}, {"0 GET k", "v"}, {"size", fmt.Sprint(len(at(0, "SET k v").text()))}, {"1 EXEC", "()"}})
	}
	checkSession(t, []said{{"0" + strings.Repeat(" k", 8), "error unknown"}, {"0 SET k " + longest, "ok"}, {"0 DEL k k k k k k k", "1"}})
}

// P49: 40 lines are answered at most.
func TestP49FortyLines(t *testing.T) {
	if got := impl.Session(nil); got != "" {
		t.Errorf("no line: %q", got)
	}
	lines := slices.Repeat([]string{"0 INCR n"}, 42)
	for count := range 43 {
		want := ""
		for n := 1; n <= min(count, 40); n++ {
			want += fmt.Sprintf("%d\n", n)
		}
		if got := impl.Session(lines[:count]); got != want {
			t.Errorf("%d lines: %q", count, got)
		}
	}
	if got := impl.Session(slices.Repeat([]string{""}, 100)); got != strings.Repeat("what\n", 40) {
		t.Errorf("%q", got)
	}
}

// anySessionLine is mostly one that can be.
func anySessionLine(c *rand.Rand, orders []told) string {
	e := anyEvent(c, 2, orders)
	words := strings.Join(e.Args, " ")
	switch {
	case c.IntN(30) == 0:
		return []string{"size", "what", "", "less x", "tick", "fall 0", "2 GET k"}[c.IntN(7)]
	case e.Kind == 2:
		return fmt.Sprintf("tick %d", e.Num)
	case e.Kind == 3:
		return fmt.Sprintf("fall %d %d %s", e.Client, e.Num, words)
	case e.Kind == 4:
		return "less"
	}
	return fmt.Sprintf("%d %s", e.Client, words)
}

// P49: a session answers each line.
func TestP49AnyLines(t *testing.T) {
	c := chance(124)
	for range 300 {
		lines := make([]string, c.IntN(46))
		orders := someOrders(c)
		for i := range lines {
			lines[i] = anySessionLine(c, orders)
		}
		if got, want := impl.Session(lines), modelSession(lines); got != want {
			t.Fatalf("%q: %q, not %q", lines, got, want)
		}
	}
}
