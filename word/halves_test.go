package word

import (
	"slices"
	"testing"

	"warpbeam/api"
	"warpbeam/link"
)

// Lists whose longs lack a half come to no frame (P12.3), but the chapter says of them, too, to what they come: so it is asked of here, inside.
func TestP123Halves(t *testing.T) {
	s, _, _ := link.New(nil)
	top, one := api.Word{}, api.Word{Kind: api.WordInt}
	long, more := api.Word{Kind: api.WordLong}, api.Word{Kind: api.WordMore}
	for _, k := range []struct{ a, b, want []api.Word }{
		{[]api.Word{long, more}, []api.Word{long, one}, []api.Word{top, top}},
		{[]api.Word{long, more}, []api.Word{one, more}, []api.Word{top, top}},
		{[]api.Word{long}, []api.Word{long}, []api.Word{top}},
		{[]api.Word{more}, []api.Word{more}, []api.Word{top}},
		{[]api.Word{more, long}, []api.Word{more, long}, []api.Word{top, top}},
		{[]api.Word{long, long, more, more}, []api.Word{long, long, more, more}, []api.Word{top, long, more, top}},
		{[]api.Word{one, long, one, more}, []api.Word{one, long, one, more}, []api.Word{one, top, one, top}},
		{[]api.Word{long, more, long, more}, []api.Word{long, more, long, one}, []api.Word{long, more, top, top}},
	} {
		if l := lists(s, k.a, k.b); !slices.Equal(l, k.want) {
			t.Errorf("lists(%v, %v): %v; want %v", k.a, k.b, l, k.want)
		}
		if l := lists(s, k.b, k.a); !slices.Equal(l, k.want) {
			t.Errorf("lists(%v, %v): %v; want %v", k.b, k.a, l, k.want)
		}
	}
}
