package tests

import (
	"os"
	"runtime/debug"
	"testing"
)

// Big numbers make much that is soon left; with room for that the tests take half the time.
func TestMain(m *testing.M) {
	debug.SetGCPercent(1000)
	os.Exit(m.Run())
}
