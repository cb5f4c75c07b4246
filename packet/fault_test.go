package packet

import (
	"errors"
	"testing"

	"gemination/api"
	"gemination/check"
)

// P13.1: a fault tells the part that is wrong, and wraps why, so that the number is found in it.
func TestFault(t *testing.T) {
	good, _ := Encode(api.Packet{Kind: api.PkAck, Session: 7, Block: 5})
	text, _ := check.Open(good)
	for _, x := range []struct {
		b, words string
		want     api.Errno
	}{
		{"", "seal: error", api.ErrForm},
		{text, "seal: error", api.ErrCheck},
		{check.Seal(text[:8]), "length: error", api.ErrForm},
		{check.Seal("\x01" + text[1:]), "hello: error", api.ErrForm},
		{check.Seal("\x00" + text[1:]), "kind or fields: error", api.ErrForm},
		{check.Seal(text[:9]), "kind or fields: error", api.ErrForm},
		{check.Seal(text[:9] + "\x20"), "kind or fields: error", api.ErrForm},
		{check.Seal(text + "\x00"), "kind or fields: error", api.ErrForm},
	} {
		p, err := parse(x.b)
		if err == nil || p != (api.Packet{}) {
			t.Fatalf("%q: %v", x.b, p)
		}
		if !errors.Is(err, x.want) || err.Error() != x.words || number(err) != x.want {
			t.Errorf("%q: %v, number %d", x.b, err, number(err))
		}
	}
	if p, err := parse(good); err != nil || p.Block != 5 || number(err) != api.OK {
		t.Error(p, err)
	}
}
