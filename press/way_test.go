package press_test

import (
	"math/rand"
	"slices"
	"testing"

	"deadwax/api"
	"deadwax/press"
)

func fastest(t *testing.T, m api.Machine, temp int64) []int {
	t.Helper()
	way, e := press.Fastest(m, temp)
	if e != api.OK {
		t.Fatalf("Fastest of %v at %d: %d", m, temp, e)
	}
	return way
}

// wantedGood follows the chapter's definition of a good way.
func wantedGood(m api.Machine, temp int64, way []int) bool {
	held := int64(0)
	for _, valve := range way {
		temp = wantedTick(m, temp, valve)
		if temp >= m.Melt {
			held++
		}
	}
	return held >= m.Hold && temp <= m.Cool
}

// P8.4: the chapter's example.
func TestFastestExample(t *testing.T) {
	if way := fastest(t, machine(), 20); !slices.Equal(way, []int{1, 0, 1, 1, 1, 0, 0, 2, 2, 2}) {
		t.Errorf("Fastest at 20: %v", way)
	}
}

// wantedShort tries all ways of so many ticks, in lexicographic order.
func wantedShort(m api.Machine, temp int64, ticks int) []int {
	way := make([]int, ticks)
	for {
		if wantedGood(m, temp, way) {
			return way
		}
		last := ticks - 1
		for last >= 0 && way[last] == api.ValveWater {
			way[last] = api.ValveShut
			last--
		}
		if last < 0 {
			return nil
		}
		way[last]++
	}
}

// P8.4, P8.11: among all short ways there is none that is faster, or as fast and before the fastest one.
func TestFastestOfAllWays(t *testing.T) {
	r := rand.New(rand.NewSource(84))
	long := 0
	for range 3000 {
		m := someMachine(r, 12, 1, 3)
		temp := upTo(r, m.Room, m.Top)
		way := fastest(t, m, temp)
		if !wantedGood(m, temp, way) {
			t.Fatalf("Fastest of %v at %d: %v", m, temp, way)
		}
		for ticks := range min(len(way)-1, 8) + 1 {
			if other := wantedShort(m, temp, ticks); other != nil {
				t.Fatalf("Fastest of %v at %d: %v, and not %v", m, temp, way, other)
			}
		}
		if len(way) > 8 {
			continue
		}
		if len(way) > 5 {
			long++
		}
		if want := wantedShort(m, temp, len(way)); !slices.Equal(way, want) {
			t.Fatalf("Fastest of %v at %d: %v, not %v", m, temp, way, want)
		}
	}
	if long < 100 {
		t.Errorf("only %d ways were long", long)
	}
}

// counted are the least ticks that it takes from each temperature and number of hot ticks, which is at most Hold, until a disc is good.
type counted struct {
	m     api.Machine
	ticks [api.MaxHold + 1][api.MaxTemp + 1]int
}

// count shortens ways until none can be shortened.
func count(m api.Machine) *counted {
	const far = 1 << 30
	c := &counted{m: m}
	for held := range c.ticks {
		for temp := range c.ticks[held] {
			c.ticks[held][temp] = far
			if int64(held) >= m.Hold && int64(temp) <= m.Cool {
				c.ticks[held][temp] = 0
			}
		}
	}
	for changed := true; changed; {
		changed = false
		for held := m.Hold; held >= 0; held-- {
			for temp := m.Room; temp <= m.Top; temp++ {
				for valve := range 3 {
					next, hot := c.next(temp, held, valve)
					if ticks := c.ticks[hot][next] + 1; ticks < c.ticks[held][temp] {
						c.ticks[held][temp] = ticks
						changed = true
					}
				}
			}
		}
	}
	return c
}

func (c *counted) next(temp, held int64, valve int) (int64, int64) {
	temp = wantedTick(c.m, temp, valve)
	if temp >= c.m.Melt && held < c.m.Hold {
		held++
	}
	return temp, held
}

// way takes the first valve with which as few ticks are left as can be.
func (c *counted) way(temp int64) []int {
	var way []int
	held := int64(0)
	for c.ticks[held][temp] > 0 {
		for valve := range 3 {
			if next, hot := c.next(temp, held, valve); c.ticks[hot][next] < c.ticks[held][temp] {
				way = append(way, valve)
				temp, held = next, hot
				break
			}
		}
	}
	return way
}

// P8.4, P8.11: the fastest ways of machines with many degrees, and from all temperatures.
func TestFastestOfManyDegrees(t *testing.T) {
	r := rand.New(rand.NewSource(411))
	machines := append(edges(), api.Machine{Room: 0, Cool: 0, Melt: 400, Top: 400, Heat: 1, Chill: 1, Drift: 1, Hold: 64, Life: 1}, api.Machine{Room: 0, Cool: 3, Melt: 390, Top: 400, Heat: 7, Chill: 9, Drift: 0, Hold: 64, Life: 1})
	for range 40 {
		machines = append(machines, someMachine(r, 400, 5, 64))
	}
	for _, m := range machines {
		c := count(m)
		for _, temp := range []int64{m.Room, m.Cool, m.Melt - 1, m.Melt, m.Top, upTo(r, m.Room, m.Top)} {
			if way, want := fastest(t, m, temp), c.way(temp); !slices.Equal(way, want) || !wantedGood(m, temp, way) {
				t.Fatalf("Fastest of %v at %d: %v, not %v", m, temp, way, want)
			}
		}
	}
}

// P8.4: temperatures that a machine cannot have.
func TestFastestErrors(t *testing.T) {
	for _, m := range edges() {
		for _, temp := range beyond(m.Room, m.Top) {
			if way, e := press.Fastest(m, temp); len(way) != 0 || e != api.ErrRange {
				t.Errorf("Fastest of %v at %d: %v, %d", m, temp, way, e)
			}
		}
	}
}

// P8.11: a press in which the fastest way is done has a good disc, again and again, at whatever temperature it closes.
func TestFastestInAPress(t *testing.T) {
	r := rand.New(rand.NewSource(811))
	warm := 0
	for range 100 {
		m := someMachine(r, 100, 2, 9)
		m.Life = 9
		p := newPress(t, m)
		do(t, p, mount(1, 2))
		for range 9 {
			s := state(t, p)
			if s.Temp > m.Room {
				warm++
			}
			do(t, p, load(), shut())
			way := fastest(t, m, s.Temp)
			for _, v := range way {
				do(t, p, valve(int64(v)), wait(1))
			}
			if d := do(t, p, open()); !d.Good || d.Time != s.Time+int64(len(way)) {
				t.Fatalf("after %v of %v at %d: %v", way, m, s.Temp, d)
			}
		}
	}
	if warm < 100 {
		t.Errorf("only %d presses were warm", warm)
	}
}
