package works_test

import (
	"strconv"
	"testing"

	"calx/api"
	"calx/book"
	"calx/works"
)

// TestExample: the chapter's examples.
func TestExample(t *testing.T) {
	s := exampleScript(t)
	if e, at := works.Check(s); e != api.OK || at != -1 {
		t.Error("P10.6:", e, at)
	}
	l, e := works.BookOf(site(), exampleWrits())
	root, f := book.Root(l)
	if e != api.OK || f != api.OK {
		t.Error("P10.3:", e, f)
	}
	expect(t, s, "ok", "ok", "ok", "ok", "ok", "from 21 to 30", "from 0 to 1", "error 1", "ok", "from 890 to 970", "from 1 to 3",
		"ok", "ok", "has 11 10 1", "surely 1 perhaps 1", "ok", "ok", "from 20 to 30", "from 21 to 30", "from 5 to 15", "error 5", "root "+strconv.Itoa(root)+" of 9")
	if e, at := works.Accept(s, run(t, s)); e != api.OK || at != -1 {
		t.Error("P10.10:", e, at)
	}
	if text, e := works.Print(s.Commands); text != exampleText || e != api.OK {
		t.Errorf("P10.11: %q %v", text, e)
	}
}
