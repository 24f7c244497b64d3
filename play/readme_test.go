package play_test

import (
	"os"
	"strings"
	"testing"

	"punnet/api"
	. "punnet/play"
	"punnet/quota"
	"punnet/spool"
)

// The script that README.md shows commits its entry.
func TestReadme(t *testing.T) {
	b, err := os.ReadFile("../README.md")
	if err != nil {
		t.Fatal(err)
	}
	_, script, _ := strings.Cut(string(b), "}, `")
	script, _, is := strings.Cut(script, "`)")
	text, _, e := Run(spool.Config{Size: 1 << 20, Sessions: 4, Quota: quota.Quota{Waiting: 4096, Size: 65536}}, script)
	if !is || e != api.OK || !strings.HasSuffix(text, "> list\n1\na.txt\n> get a.txt\n616263\n") {
		t.Errorf("%d, %q", e, text)
	}
}
