package minor

import (
	"nurserypy/api"
	"nurserypy/mem"
	"nurserypy/moved"
	"nurserypy/word"
)

// A copier copies objects out of the half that is in use, and knows where they went.
type copier struct {
	*mem.Memory
	moved.Places
	tenure       int
	young, grown part
}

// A part of the memory into which objects are copied: the fields of those that lie ahead of done follow already; top
// is where the next one comes to lie.
type part struct{ done, top int }

func (p *part) take(words int) (at int) {
	at = p.top
	p.top += words
	return at
}

// scan lets the fields of what was copied follow, which copies more: it ends where nothing is left to be looked at.
func (c *copier) scan() {
	for c.young.done < c.young.top || c.grown.done < c.grown.top {
		c.scanPart(&c.young)
		c.scanPart(&c.grown)
	}
}

func (c *copier) scanPart(p *part) {
	for p.done < p.top {
		o := c.head(p.done)
		end := p.done + 1 + o.Size
		for at := p.done + 1; at < end && !mem.Raw(o.Kind); at++ {
			c.followField(at)
		}
		p.done = end
	}
}

func (c *copier) followField(at int) {
	c.W[at] = c.follow(c.W[at])
	c.Mark(at)
}

func (c *copier) followAll(l []api.Word) {
	for i, w := range l {
		l[i] = c.follow(w)
	}
}

// follow tells what a word becomes; an object that it points to is copied, if that was not done yet.
func (c *copier) follow(w api.Word) api.Word {
	now, ok := c.Now(w)
	if !ok {
		c.copyOut(w)
		now, _ = c.Now(w)
	}
	return now
}

// copyOut copies the object to which a word points.
func (c *copier) copyOut(w api.Word) {
	from, _ := word.ToAddr(w) // no errors: the memory checks
	o := c.head(from)
	words := 1 + o.Size
	to := &c.young
	if o.Age >= c.tenure {
		to, o.Age = &c.grown, 0
	} else {
		o.Age++ // to the greatest age at most, which no tenure is beyond
	}
	at := to.take(words)
	copy(c.W[at:], c.W[from:from+words])
	c.W[at], _ = word.OfHead(o)
	c.Note(from, at)
}

func (c *copier) head(at int) word.Head {
	o, _ := word.ToHead(c.W[at])
	return o
}
