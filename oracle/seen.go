package oracle

// Seen counts what the inputs of a test are like.
type Seen map[string]int

func (s Seen) Count(name string, is bool) {
	if is {
		s[name]++
	}
}

// test is what a test is told by; it spares the package testing.
type test interface {
	Helper()
	Errorf(format string, values ...any)
}

// Need is for the end of a test, which shows little if few inputs were so.
func (s Seen) Need(t test, least int, names ...string) {
	t.Helper()
	for _, name := range names {
		if s[name] < least {
			t.Errorf("only %d of the inputs: %s", s[name], name)
		}
	}
}
