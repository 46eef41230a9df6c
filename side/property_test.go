package side_test

import (
	"math/rand"
	"slices"
	"testing"

	"deadwax/api"
	"deadwax/side"
)

// easier changes a format or a track so that there is more room.
func easier(r *rand.Rand, f *api.Format, t *api.Track) {
	switch r.Intn(5) {
	case 0:
		f.Outer += r.Int63n(20)
	case 1:
		f.Inner = max(0, f.Inner-r.Int63n(20))
	case 2:
		t.Long = max(1, t.Long-r.Int63n(5))
	case 3:
		t.Pitch = max(1, t.Pitch-r.Int63n(3))
	case 4:
		t.Least = max(0, t.Least-r.Int63n(30))
	}
}

// roomier returns formats and tracks of which one has more room.
func roomier(r *rand.Rand, formats []api.Format, l []api.Track) ([]api.Format, []api.Track) {
	formats, l = slices.Clone(formats), slices.Clone(l)
	easier(r, &formats[r.Intn(len(formats))], &l[r.Intn(len(l))])
	return formats, l
}

// P4.12: orders.
func TestMoreRoomForOrders(t *testing.T) {
	r := rand.New(rand.NewSource(412))
	for range 20000 {
		formats, l := someFormats(r, 1), append(someTracks(r, 4), api.Track{Long: 1, Pitch: 1})
		order := r.Perm(len(l))
		if _, _, e := side.Lay(formats[0], l, order); e != api.OK {
			continue
		}
		more, easy := roomier(r, formats, l)
		if _, _, e := side.Lay(more[0], easy, order); e != api.OK {
			t.Fatalf("%v of %v on %v is possible, but not of %v on %v", order, l, formats, easy, more)
		}
		if _, e := side.Arrange(more[0], easy); e != api.OK {
			t.Fatalf("%v on %v has no order, though %v of %v on %v is possible", easy, more, order, l, formats)
		}
		for i := range order {
			shorter := slices.Delete(slices.Clone(order), i, i+1)
			if _, _, e := side.Lay(formats[0], l, shorter); e != api.OK {
				t.Fatalf("%v of %v on %v is possible, but not %v", order, l, formats, shorter)
			}
		}
	}
}

// P4.12: albums.
func TestMoreRoomForAlbums(t *testing.T) {
	r := rand.New(rand.NewSource(4120))
	for range 3000 {
		formats, l := someFormats(r, 1+r.Intn(3)), append(someTracks(r, 8), api.Track{Long: 1, Pitch: 1})
		plan, cost, e := side.Album(formats, l)
		if e != api.OK {
			continue
		}
		more, easy := roomier(r, formats, l)
		if n, e := side.Cost(more, easy, plan); n != cost || e != api.OK {
			t.Fatalf("%v of %v on %v costs %d, but of %v on %v %d, %d", plan, l, formats, cost, easy, more, n, e)
		}
		if _, n, e := side.Album(more, easy); n > cost || e != api.OK {
			t.Fatalf("an album of %v on %v costs %d, but of %v on %v %d, %d", l, formats, cost, easy, more, n, e)
		}
		another := append(slices.Clone(formats), someFormat(r))
		if _, n, e := side.Album(another, l); n > cost || e != api.OK {
			t.Fatalf("an album of %v on %v costs %d, but on %v %d, %d", l, formats, cost, another, n, e)
		}
		if n, e := side.Cost(another, l, plan); n != cost || e != api.OK {
			t.Fatalf("%v of %v on %v costs %d, but on %v %d, %d", plan, l, formats, cost, another, n, e)
		}
	}
}

// P4.12: packings.
func TestMoreRoomForPackings(t *testing.T) {
	r := rand.New(rand.NewSource(4121))
	for range 3000 {
		formats, l := someFormats(r, 1), append(someTracks(r, 7), api.Track{Long: 1, Pitch: 1})
		packing, many, e := side.Pack(formats[0], l)
		if e != api.OK {
			continue
		}
		more, easy := roomier(r, formats, l)
		if p, n, e := side.Pack(more[0], easy); n > many || e != api.OK {
			t.Fatalf("%v on %v has the packing %v, but %v on %v has %v, %d", l, formats, packing, easy, more, p, e)
		}
	}
}
