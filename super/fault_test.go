package super

import (
	"errors"
	"testing"

	"gemination/api"
	"gemination/check"
)

// P6.1: a fault tells the part that is wrong, and wraps why: the seal's number, or that there is no superblock.
func TestFault(t *testing.T) {
	good, _ := Encode(api.Super{Blocks: 5, Vector: api.Vector{Current: 1}})
	text, _ := check.Open(good)
	for _, x := range []struct {
		b, words string
		why      error
		want     api.Errno
	}{
		{"", "seal: error", api.ErrForm, api.ErrForm},
		{text, "seal: error", api.ErrCheck, api.ErrCheck},
		{check.Seal(text + "x"), "length: not a superblock", errShape, api.ErrForm},
		{check.Seal("gM" + text[2:]), "head: not a superblock", errShape, api.ErrForm},
		{check.Seal(text[:4] + "\x08" + text[5:]), "flags: not a superblock", errShape, api.ErrForm},
		{check.Seal(text[:3] + "\x00" + text[4:]), "blocks or generations: not a superblock", errShape, api.ErrForm},
	} {
		s, err := parse(x.b)
		if err == nil || s != (api.Super{}) {
			t.Fatalf("%q: %v", x.b, s)
		}
		var e api.Errno
		if errors.As(err, &e) != (x.why != errShape) || !errors.Is(err, x.why) || err.Error() != x.words || number(err) != x.want {
			t.Errorf("%q: %v, number %d", x.b, err, number(err))
		}
	}
	if s, err := parse(good); err != nil || s.Blocks != 5 || number(err) != api.OK {
		t.Error(s, err)
	}
}
