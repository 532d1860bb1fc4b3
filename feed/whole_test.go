package feed_test

import (
	"testing"

	"bourse/api"
	"bourse/feed"
	. "bourse/sample"
	"bourse/snapshot"
)

// run is what a publisher told over a book: its messages, its picture behind each Publish, by the picture's number, and what comes of the messages up to each number.
type run struct {
	told     []api.Data
	pictures []api.Picture
	comes    []api.Picture
}

// played is the run of a publisher over an engine that does commands; it holds the pictures against the engine's depth.
func played(t *testing.T, mix *Mixer, engine, depth, commands int) run {
	t.Helper()
	e, why := snapshot.Make(engine, api.Config{Capacity: 40, Meet: mix.Below(4)})
	Same(t, "Make", why, api.OK)
	p := publisher(t, depth)
	r := run{pictures: []api.Picture{{}}, comes: []api.Picture{{}}}
	levels := newBoard(api.Picture{})
	var high uint64
	prices := Pick(mix, 6, 12, 60)
	for range commands {
		events := e.Do(command(mix, high, prices))
		high = e.Book().High
		most := Pick(mix, depth, depth+1, api.MaxOrders)
		told, why := p.Publish(e.Depth(api.Buy, most), e.Depth(api.Sell, most), events)
		Same(t, "Publish", why, api.OK)
		for i, d := range told {
			Same(t, "Seq", d.Seq, uint64(len(r.told)+i+1))
			levels.do(d)
			r.comes = append(r.comes, levels.picture(d.Seq))
		}
		r.told = append(r.told, told...)
		x := p.Picture()
		shows(t, "the book", x, picture(uint64(len(r.told)), e.Depth(api.Buy, depth), e.Depth(api.Sell, depth)))
		r.pictures = append(r.pictures, x)
	}
	return r
}

// command is a likely one or a wild one, but leaves numbers for those that come.
func command(mix *Mixer, high uint64, prices int) api.Command {
	c := Likely(mix, high, prices)
	if mix.Below(4) == 0 {
		c = Wild(mix, high, prices)
	}
	c.ID = min(c.ID, high+9)
	return c
}

// runs are over every engine, of some depths.
func runs(t *testing.T, mix *Mixer, count, commands int) []run {
	t.Helper()
	var l []run
	for i := range count {
		l = append(l, played(t, mix, 1+i%3, Pick(mix, 1, 2, 3, 5, 64), commands))
	}
	return l
}

func TestP18_8Followed(t *testing.T) {
	var mix Mixer
	for _, r := range runs(t, &mix, 30, 60) {
		for from := 0; from < len(r.pictures); from += 1 + mix.Below(20) {
			s := subscriber(t, mix.Below(3))
			Same(t, "Recover", s.Recover(r.pictures[from]), api.OK)
			next := r.pictures[from].Seq
			for _, x := range r.pictures[from:] {
				for ; next < x.Seq; next++ {
					takes(t, s, r.told[next], api.OK)
				}
				shows(t, "behind a Publish", s.Picture(), x)
				Same(t, "Good", s.Good(), true)
			}
		}
	}
}

// line is what comes of messages over a line that loses, doubles and mixes up, now and then or often.
func line(mix *Mixer, told []api.Data) []api.Data {
	often := Pick(mix, 4, 20, 100)
	var l []api.Data
	for _, d := range told {
		if mix.Below(often) > 0 {
			l = append(l, d)
		}
		if mix.Below(often) == 0 {
			l = append(l, Pick(mix, told...))
		}
		if n := len(l); mix.Below(often) == 0 && n > 1 {
			i := max(0, n-1-mix.Below(9))
			l[i], l[n-1] = l[n-1], l[i]
		}
	}
	return l
}

func TestP18_9NothingFalse(t *testing.T) {
	var mix Mixer
	good, ends := 0, 0
	for _, r := range runs(t, &mix, 60, 60) {
		behind := map[uint64]api.Picture{}
		for _, x := range r.pictures {
			behind[x.Seq] = x
		}
		for range 4 {
			s := subscriber(t, Pick(&mix, 0, 1, 2, 5, 30, api.MaxHold))
			for _, d := range line(&mix, r.told) {
				if mix.Below(30) == 0 {
					s.Recover(Pick(&mix, r.pictures...))
				}
				s.Take(d)
				x := s.Picture()
				if !s.Good() {
					continue
				}
				good++
				shows(t, "what comes of the messages", x, r.comes[x.Seq])
				if want, there := behind[x.Seq]; there {
					ends++
					shows(t, "what the publisher showed", x, want)
				}
			}
		}
	}
	if ends < 1000 || good-ends < 1000 {
		t.Fatalf("good %d times, %d of them at the end of a Publish: too few", good, ends)
	}
}

func TestP18_9AnyOrder(t *testing.T) {
	var mix Mixer
	for _, r := range runs(t, &mix, 30, 60) {
		s := subscriber(t, api.MaxHold)
		mixed := append([]api.Data(nil), r.told...)
		for i := range mixed {
			j := i + mix.Below(len(mixed)-i)
			mixed[i], mixed[j] = mixed[j], mixed[i]
		}
		for _, d := range mixed {
			s.Take(d)
		}
		Same(t, "Good", s.Good(), true)
		shows(t, "at the end", s.Picture(), r.comes[len(r.told)])
	}
}

func TestP18_10FindsItsFeet(t *testing.T) {
	var mix Mixer
	for _, r := range runs(t, &mix, 60, 60) {
		s := subscriber(t, Pick(&mix, 0, 1, 5, api.MaxHold))
		n := 1
		for _, x := range r.pictures[1:] {
			for range mix.Below(6) {
				if x.Seq > 0 {
					s.Take(r.told[mix.Below(int(x.Seq))])
				}
			}
			if n++; mix.Below(9) == 0 || n == len(r.pictures) {
				Same(t, "Recover", s.Recover(x), api.OK)
				Same(t, "Good", s.Good(), true)
				Same(t, "Missing", missing(s), gap{})
				shows(t, "the last picture", s.Picture(), x)
			}
		}
	}
}

func TestP18_11Book(t *testing.T) {
	var mix Mixer
	levels := 0
	for _, r := range runs(t, &mix, 90, 150) {
		for _, x := range r.pictures {
			levels = max(levels, len(x.Buys)+len(x.Sells))
		}
	}
	if levels < 12 {
		t.Fatalf("at most %d levels were shown: too few", levels)
	}
}

func TestP18FramesOfAll(t *testing.T) {
	var mix Mixer
	for _, r := range runs(t, &mix, 9, 60) {
		for _, d := range r.told {
			f, why := feed.Pack(d)
			Same(t, "Pack", why, api.OK)
			again, why := feed.Unpack(f)
			Same(t, "Unpack", why, api.OK)
			Same(t, "the message", again, d)
		}
	}
}

// What no call of the package made may answer anything, but must not panic.
func TestZeroObjects(t *testing.T) {
	var p feed.Publisher
	p.Publish([]api.Level{at(5, 1, 1)}, []api.Level{at(6, 1, 1)}, Numbered(0, Traded(2, 1, api.Buy, 9, 1)))
	p.Publish([]api.Level{at(5, 0, 1)}, nil, nil)
	p.Picture()
	var s feed.Subscriber
	for _, d := range append(append(fairData(1), fairData(1<<64-9)...), wrongData()...) {
		s.Take(d)
		s.Picture()
		s.Good()
		s.Missing()
		s.Last()
	}
	s.Recover(picture(9, []api.Level{at(5, 1, 1)}, nil))
	s.Recover(picture(1, nil, nil))
}
