package image

import "warden/api"

const (
	bornPages  = 2                         // a space's own page and its first-level table, which no part stands for
	mostPages  = api.MaxSecure - bornPages // of the parts
	mostShares = api.MaxInsecure - 1       // the one that is left is staging

	tableBytes = api.TopVA / api.L1Words // addresses that one second-level table is for
)

// ground: what the pieces so far take up; it tells whether the next one may stand behind them.
type ground struct {
	pieces []piece
	tables [api.L1Words]bool   // by their indices
	mapped map[uint32]struct{} // by their addresses
	shares int
}

// piecesOf: those of an image. Gives up, if it is none: so all that is said of pieces elsewhere is said of an image's.
func piecesOf(i Image) []piece {
	var g ground
	for _, p := range i.Parts {
		g.add(pieceOf(p))
	}
	return g.pieces
}

// add: one more. Gives up, if they are no image then.
func (g *ground) add(p piece) {
	switch x := p.(type) {
	case table:
		insist(!g.tables[x], api.ErrImage)
		g.tables[x] = true
	case data:
		g.addAddress(x.VA)
	case share:
		g.addAddress(x.VA)
		g.shares++
	}
	g.pieces = append(g.pieces, p)
	insist(g.shares <= mostShares && len(g.pieces)-g.shares <= mostPages, api.ErrImage)
}

// addAddress: that of a page, for which there must be a table, and nothing yet.
func (g *ground) addAddress(va uint32) {
	insist(g.tables[va/tableBytes], api.ErrImage)
	_, taken := g.mapped[va]
	insist(!taken, api.ErrImage)
	if g.mapped == nil {
		g.mapped = map[uint32]struct{}{}
	}
	g.mapped[va] = struct{}{}
}

// need: how many pages of either kind.
type need struct {
	secure, shares int
}

func needOf(pieces []piece) need {
	n := need{secure: bornPages}
	for _, p := range pieces {
		switch p.(type) {
		case share:
			n.shares++
		default:
			n.secure++
		}
	}
	return n
}
