package host

import (
	"warden/api"
	"warden/image"
	"warden/life"
)

// enclave: what the host has lent to one, and what it must know of it to run it.
type enclave struct {
	space   securePage
	pages   []securePage // all of them, rising
	shares  []insecurePage
	threads []thread
}

type thread struct {
	page        securePage
	interrupted bool
}

// build: an enclave out of the least free pages, of which there are as many; and whether the monitor took all of it.
func (h *Host) build(i image.Image, secure, shares int) (*enclave, bool) {
	c := &enclave{pages: h.secure.take(secure), shares: h.insecure.take(shares)}
	c.space = c.pages[0]
	// The image was looked at, and pages of the pools are what a plan asks for: it can't be refused.
	steps, _ := image.Plan(i, numbers(c.pages), numbers(c.shares), staging)
	for _, s := range steps {
		if !h.does(s) {
			return c, false
		}
		if s.Call == api.CallThread {
			c.threads = append(c.threads, thread{page: securePage(s.B)})
		}
	}
	return c, true
}

// does: one step of a plan; false, if the monitor refuses it.
func (h *Host) does(s image.Step) bool {
	if s.Lay {
		for off, w := range s.Words {
			h.machine.Write(s.Page, off, w)
		}
		return true
	}
	code, _ := h.machine.Do(s.Call, s.A, s.B, s.C, s.D, 0)
	return code == api.CodeOK
}

// takeDown: nothing of the enclave is left, however much of it was built; its pages are free again.
func (h *Host) takeDown(c *enclave) {
	h.machine.Do(api.CallStop, uint32(c.space), 0, 0, 0, 0)
	for _, page := range life.Plan(h.machine.DB(), int(c.space)) {
		h.machine.Do(api.CallRemove, uint32(page), 0, 0, 0, 0)
	}
	h.secure.give(c.pages)
	h.insecure.give(c.shares)
}

// enclave: the one of that number; with ErrUnknown one that has nothing.
func (h *Host) enclave(id int) (*enclave, api.Errno) {
	c, lives := h.enclaves[id]
	if !lives {
		return &enclave{}, api.ErrUnknown
	}
	return c, api.OK
}

func (h *Host) thread(id, number int) (*thread, api.Errno) {
	c, _ := h.enclave(id)
	if number < 0 || number >= len(c.threads) {
		return nil, api.ErrUnknown
	}
	return &c.threads[number], api.OK
}

func (h *Host) share(id, number int) (insecurePage, api.Errno) {
	c, _ := h.enclave(id)
	if number < 0 || number >= len(c.shares) {
		return 0, api.ErrUnknown
	}
	return c.shares[number], api.OK
}
