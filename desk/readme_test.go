package desk

import (
	"os"
	"strings"
	"testing"
)

func TestReadme(t *testing.T) { // the script that README.md shows is right
	b, err := os.ReadFile("../README.md")
	if err != nil {
		t.Fatal(err)
	}
	_, rest, _ := strings.Cut(string(b), "held against such models:\n\n")
	text, _, there := strings.Cut(rest, "\n\n")
	l, bad := Parse(text)
	if !there || bad != 0 || len(l) != 8 {
		t.Fatalf("Parse(%q): %v, %d", text, l, bad)
	}
	holds(t, l)
	for i, r := range Run(l) {
		if r.Err != 0 {
			t.Errorf("%d: %v", i, r)
		}
	}
}
