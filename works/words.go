package works

import "calx/api"

// kinds is what tells commands apart that are written differently.
type kinds struct{ command, writ, stir int }

func kindsOf(c api.Command) kinds { return kinds{c.Kind, c.Writ.Kind, c.Writ.Stir.Kind} }

// blank returns the command of some kinds of which no number is told yet.
func (k kinds) blank() api.Command {
	return api.Command{Kind: k.command, Writ: api.Writ{Kind: k.writ, Stir: api.Stir{Kind: k.stir}}}
}

// style is by which word the line of commands of some kinds begins.
type style struct {
	word  string
	kinds kinds
}

func styles() []style {
	return []style{
		{"day", kinds{api.CoDay, 0, 0}},
		{"load", kinds{api.CoWrit, api.WrLoad, 0}},
		{"draw", kinds{api.CoWrit, api.WrDraw, 0}},
		{"weigh", kinds{api.CoWrit, api.WrWeigh, 0}},
		{"look", kinds{api.CoWrit, api.WrLook, 0}},
		{"pour", kinds{api.CoWrit, api.WrStir, api.StPour}},
		{"take", kinds{api.CoWrit, api.WrStir, api.StTake}},
		{"turn", kinds{api.CoWrit, api.WrStir, api.StTurn}},
		{"move", kinds{api.CoWrit, api.WrStir, api.StMove}},
		{"spill", kinds{api.CoWrit, api.WrStir, api.StSpill}},
		{"back", kinds{api.CoWrit, api.WrBack, 0}},
		{"weight", kinds{api.CoWeight, 0, 0}},
		{"where", kinds{api.CoWhere, 0, 0}},
		{"heat", kinds{api.CoHeat, 0, 0}},
		{"baked", kinds{api.CoBaked, 0, 0}},
		{"took", kinds{api.CoTook, 0, 0}},
		{"barrow", kinds{api.CoBarrow, 0, 0}},
		{"from", kinds{api.CoFrom, 0, 0}},
		{"stands", kinds{api.CoStands, 0, 0}},
		{"grown", kinds{api.CoGrown, 0, 0}},
	}
}

// wordOf returns the word of a command, if it is of kinds that there are.
func wordOf(c api.Command) (string, bool) {
	x, ok := find(styles(), func(x style) bool { return x.kinds == kindsOf(c) })
	return x.word, ok
}

// kindsBy returns the kinds that a word stands for, if it is one of a command.
func kindsBy(word string) (kinds, bool) {
	x, ok := find(styles(), func(x style) bool { return x.word == word })
	return x.kinds, ok
}
