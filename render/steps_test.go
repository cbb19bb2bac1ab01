package render

import (
	"testing"

	"wayfarer/api"
	"wayfarer/model"
)

// checkSteps holds what is rendered from a to b, and from that to c, against what is rendered from a to c: the same is shown, but for titles that are left as they are.
func checkSteps(t *testing.T, a, b, c api.Screen) {
	t.Helper()
	first := check(t, a, b)
	middle, _, _ := played(a, first)
	if !model.Tame(middle) {
		t.Fatalf("%s is not tame", tellingOf(middle))
	}
	last, _, _ := played(middle, check(t, middle, c))
	once, _, _ := played(a, check(t, a, c))
	if !isTold(c.Title) {
		last.Title, once.Title = nil, nil
	}
	if !equal(last, once) {
		t.Errorf("%s\nby %s\nto %s:\n%s\nnot %s", tellingOf(a), tellingOf(b), tellingOf(c), tellingOf(last), tellingOf(once))
	}
}

// P19.4: two steps and one, with all that a screen may have.
func TestSteps(t *testing.T) {
	t.Parallel()
	var l []api.Screen
	for i, text := range []string{".../...", "abc/def 1,2", "aW-/W-b 0,1", "X=A/~_1 1,0 novisible", "def/ghi 1,1 paste", "__c/3M- 0,2", "W-./... 1,2 arrows"} {
		s := screenOf(text)
		s.Title = titles()[i*5].title
		l = append(l, s, wild(s), odd(s))
	}
	for _, a := range l {
		if !model.Tame(a) {
			continue
		}
		for _, b := range l {
			for _, c := range l {
				checkSteps(t, a, b, c)
			}
		}
	}
}

// P19.4: all triples of short rows.
func TestAllSteps(t *testing.T) {
	t.Parallel()
	rows := rowsOf(3, ".aAW-")
	for _, a := range rows {
		for _, b := range rows {
			for _, c := range rows {
				checkSteps(t, screenOf(a), screenOf(b), screenOf(c))
			}
		}
	}
}

// P19.3, P19.4: behind Start a terminal shows what is rendered from a new screen on, whatever it had.
func TestStartSteps(t *testing.T) {
	t.Parallel()
	for _, text := range []string{"abc/def 1,2+", "aW-/W-b 0,1", "~_,/X=A 1,1 insert origin"} {
		was := wild(screenOf(text))
		for _, other := range []string{".../...", "W-1/_B. 1,0 novisible"} {
			to := screenOf(other)
			begin, _ := Start(3, 2)
			b, e := Render(fresh(3, 2), to)
			shown, replies, quiet := played(was, append(begin, b...))
			to.Title = was.Title
			if e != api.OK || !equal(shown, to) || len(replies) > 0 || !quiet {
				t.Errorf("%s", tellingOf(shown))
			}
		}
	}
}
