package recipe

import (
	"strconv"
	"strings"

	"calx/api"
)

// Print returns the text of recipes.
func Print(l []api.Recipe) (string, api.Errno) {
	if len(l) > api.MaxRecipes {
		return "", api.ErrLimit
	}
	text := ""
	for i, r := range l {
		if !isFormed(r) {
			return "", api.ErrForm
		}
		if isNamed(l[:i], r.Name) {
			return "", api.ErrTwice
		}
		text += textOf(r)
	}
	return text, api.OK
}

func textOf(r api.Recipe) string {
	text := "recipe " + r.Name + " of " + strings.Join(r.Stuffs, " and ") + " {\n"
	for _, x := range r.Rules {
		text += " " + textOfRule(x) + ";\n"
	}
	return text + "}\n"
}

func textOfRule(x api.Rule) string {
	text := ""
	switch x.Kind {
	case api.RuShare:
		text = x.Stuff + " from " + textOfFraction(x.Lo) + " to " + textOfFraction(x.Hi)
	case api.RuCompare:
		text = textOfSum(x.Less) + " at most " + textOfSum(x.More)
	case api.RuAge:
		text = "age " + x.Stuff + " from " + textOfDays(x.From, x.To)
	}
	for _, s := range x.Except {
		text += " except days " + textOfDays(s.Lo, s.Hi)
	}
	return text
}

func textOfDays(lo, hi int) string { return strconv.Itoa(lo) + " to " + strconv.Itoa(hi) }

func textOfFraction(r api.Ratio) string {
	if r.Den == 1 {
		return strconv.Itoa(r.Num)
	}
	return strconv.Itoa(r.Num) + "/" + strconv.Itoa(r.Den)
}

func textOfSum(l []api.Term) string {
	var terms []string
	for _, t := range l {
		if t.Factor == 1 {
			terms = append(terms, t.Stuff)
		} else {
			terms = append(terms, strconv.Itoa(t.Factor)+" "+t.Stuff)
		}
	}
	return strings.Join(terms, " + ")
}
