package entry_test

import (
	"testing"

	"warden/entry"
)

// named: the name that stands at that place; empty beside the list.
func named(names []string, n int) string {
	for i, name := range names {
		if i == n {
			return name
		}
	}
	return ""
}

func TestNames(t *testing.T) {
	types := []string{"free", "space", "thread", "first", "second", "data", "spare"}
	states := []string{"none", "init", "final", "stopped"}
	numbers := wild
	for n := -300; n <= 300; n++ {
		numbers = append(numbers, n)
	}
	for _, n := range numbers {
		if got, want := entry.TypeName(entry.Type(n)), named(types, n); got != want {
			t.Errorf("P11.4: TypeName(%d) = %q; want %q", n, got, want)
		}
		if got, want := entry.StateName(entry.State(n)), named(states, n); got != want {
			t.Errorf("P11.4: StateName(%d) = %q; want %q", n, got, want)
		}
	}
}

func TestNamesExamples(t *testing.T) {
	if entry.TypeName(3) != "first" || entry.TypeName(7) != "" || entry.TypeName(-1) != "" {
		t.Errorf("P11.4: TypeName(3), (7), (-1) = %q, %q, %q", entry.TypeName(3), entry.TypeName(7), entry.TypeName(-1))
	}
	if entry.StateName(0) != "none" || entry.StateName(4) != "" {
		t.Errorf("P11.4: StateName(0), (4) = %q, %q", entry.StateName(0), entry.StateName(4))
	}
}
