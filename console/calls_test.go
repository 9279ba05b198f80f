package console_test

// The exported calls of all layers, held against the signatures that the chapters of the document list: this file is not built if one of them is another. It stands with the topmost layer, which may call all others.

import (
	"idiom/api"
	"idiom/bind"
	"idiom/bundle"
	"idiom/check"
	"idiom/choose"
	"idiom/civil"
	"idiom/code"
	"idiom/compact"
	"idiom/console"
	"idiom/dates"
	"idiom/decimal"
	"idiom/digits"
	"idiom/lists"
	"idiom/locale"
	"idiom/lower"
	"idiom/machine"
	"idiom/mean"
	"idiom/measure"
	"idiom/number"
	"idiom/operand"
	"idiom/pattern"
	"idiom/round"
	"idiom/rule"
	"idiom/runes"
	"idiom/serve"
	"idiom/since"
	"idiom/spell"
	"idiom/tag"
	"idiom/token"
	"idiom/tree"
	"idiom/unparse"
)

var (
	// runes
	_ func(s string) bool                                      = runes.Valid
	_ func(s string) string                                    = runes.Repair
	_ func(r rune) bool                                        = runes.Space
	_ func(r rune) bool                                        = runes.Syntax
	_ func(s string) int                                       = runes.Ident
	_ func(s string) string                                    = runes.Trim
	_ func(s string) string                                    = runes.Escape
	_ func(s string) (string, int, api.Errno)                  = runes.Unescape
	_ func(pattern string, items []string) (string, api.Errno) = runes.Fill

	// decimal
	_ func(d api.Dec) api.Errno                        = decimal.Check
	_ func(s string) (api.Dec, api.Errno)              = decimal.Parse
	_ func(d api.Dec) (string, api.Errno)              = decimal.Print
	_ func(a, b api.Dec) (int, api.Errno)              = decimal.Compare
	_ func(a, b api.Dec) (api.Dec, api.Errno)          = decimal.Add
	_ func(a, b api.Dec) (api.Dec, api.Errno)          = decimal.Sub
	_ func(a, b api.Dec) (api.Dec, api.Errno)          = decimal.Mul
	_ func(a, b api.Dec) (api.Dec, api.Errno)          = decimal.Div
	_ func(a, b api.Dec) (api.Dec, api.Errno)          = decimal.Rem
	_ func(d api.Dec) (api.Dec, api.Errno)             = decimal.Trim
	_ func(d api.Dec, places int) (api.Dec, api.Errno) = decimal.Pad
	_ func(d api.Dec, power int) (api.Dec, api.Errno)  = decimal.Shift
	_ func(n int64) api.Dec                            = decimal.Of
	_ func(d api.Dec) (int64, api.Errno)               = decimal.Int64

	// round
	_ func(d api.Dec, mode, most int) (api.Dec, api.Errno)         = round.Places
	_ func(d api.Dec, mode, least, most int) (api.Dec, api.Errno)  = round.Fix
	_ func(d api.Dec, mode, least, most int) (api.Dec, api.Errno)  = round.Significant
	_ func(d api.Dec, mode int, step api.Dec) (api.Dec, api.Errno) = round.Step
	_ func(mode int) (string, api.Errno)                           = round.Name
	_ func(s string) (int, api.Errno)                              = round.ByName

	// operand
	_ func(d api.Dec, exp int) (api.Ops, api.Errno)           = operand.Of
	_ func(o api.Ops) api.Errno                               = operand.Check
	_ func(o api.Ops, letter string) (api.Dec, api.Errno)     = operand.Get
	_ func(o api.Ops, letter, by string) (api.Dec, api.Errno) = operand.Mod
	_ func(o api.Ops, r api.Rel) (bool, api.Errno)            = operand.In

	// rule
	_ func(s string) (api.Rule, int, api.Errno)           = rule.Parse
	_ func(r api.Rule) (string, api.Errno)                = rule.Print
	_ func(r api.Rule) api.Errno                          = rule.Check
	_ func(r api.Rule) (ints, decs []string, e api.Errno) = rule.Spread

	// choose
	_ func(cat int) (string, api.Errno)                        = choose.Name
	_ func(s string) (int, api.Errno)                          = choose.ByName
	_ func(r api.Rule, o api.Ops) (bool, api.Errno)            = choose.Holds
	_ func(s string) (api.Set, int, api.Errno)                 = choose.Parse
	_ func(set api.Set) api.Errno                              = choose.Check
	_ func(set api.Set) (string, api.Errno)                    = choose.Print
	_ func(set api.Set, d api.Dec, exp int) (int, api.Errno)   = choose.Pick
	_ func(set api.Set) ([]api.Miss, api.Errno)                = choose.Misses
	_ func(set api.Set) ([]int, api.Errno)                     = choose.Cats
	_ func(rows []api.RangeRow, from, to int) (int, api.Errno) = choose.Range

	// tag
	_ func(s string) (api.Tag, int, api.Errno)                        = tag.Parse
	_ func(t api.Tag) (string, api.Errno)                             = tag.Print
	_ func(t api.Tag) api.Errno                                       = tag.Check
	_ func(t api.Tag, parents []api.Pair) ([]api.Tag, api.Errno)      = tag.Chain
	_ func(want, have []api.Tag, parents []api.Pair) (int, api.Errno) = tag.Lookup
	_ func(t, of api.Tag) (bool, api.Errno)                           = tag.Within

	// digits
	_ func() []string                               = digits.Systems
	_ func(name string) (rune, api.Errno)           = digits.Zero
	_ func(name, digits string) (string, api.Errno) = digits.Render
	_ func(name, s string) (string, int, api.Errno) = digits.Read
	_ func(n int, small bool) (string, api.Errno)   = digits.Roman
	_ func(s string) (int, api.Errno)               = digits.FromRoman

	// pattern
	_ func(s string) (api.Pattern, int, api.Errno) = pattern.Parse
	_ func(p api.Pattern) (string, api.Errno)      = pattern.Print
	_ func(p api.Pattern) api.Errno                = pattern.Check
	_ func(p api.Pattern) int                      = pattern.Scale

	// number
	_ func(y api.Symbols) api.Errno                                                            = number.Check
	_ func(p api.Pattern, d api.Dec, mode int) (api.Dec, api.Errno)                            = number.Shown
	_ func(p api.Pattern, y api.Symbols, d api.Dec, mode int, m api.Money) (string, api.Errno) = number.Format
	_ func(p api.Pattern, y api.Symbols, s string, m api.Money) (api.Dec, api.Errno)           = number.Read

	// compact
	_ func(rows []api.CompactRow) api.Errno                                                            = compact.Check
	_ func(rows []api.CompactRow, d api.Dec, mode int) (api.Dec, int, api.Errno)                       = compact.Shorten
	_ func(rows []api.CompactRow, set api.Set, y api.Symbols, d api.Dec, mode int) (string, api.Errno) = compact.Format

	// measure
	_ func(c api.Currency) api.Errno                                                                                     = measure.CheckCurrency
	_ func(u api.Unit) api.Errno                                                                                         = measure.CheckUnit
	_ func(c api.Currency, d api.Dec, mode int) (api.Dec, api.Errno)                                                     = measure.Cash
	_ func(c api.Currency, form int, p api.Pattern, y api.Symbols, set api.Set, d api.Dec, mode int) (string, api.Errno) = measure.Format
	_ func(u api.Unit, p api.Pattern, y api.Symbols, set api.Set, d api.Dec, mode int) (string, api.Errno)               = measure.Amount

	// lists
	_ func(p api.ListPattern) api.Errno                           = lists.Check
	_ func(p api.ListPattern, items []string) (string, api.Errno) = lists.Join
	_ func(pattern, from, to string) (string, api.Errno)          = lists.Range

	// spell
	_ func(r api.Spell) api.Errno                                                 = spell.Check
	_ func(r api.Spell) ([]string, api.Errno)                                     = spell.Sets
	_ func(s string) (api.Spell, int, api.Errno)                                  = spell.Parse
	_ func(r api.Spell) (string, api.Errno)                                       = spell.Print
	_ func(r api.Spell, y api.Symbols, set string, d api.Dec) (string, api.Errno) = spell.Say

	// civil
	_ func(d api.Date) api.Errno                                       = civil.Check
	_ func(d api.Date) (int, api.Errno)                                = civil.Days
	_ func(days int) (api.Date, api.Errno)                             = civil.Of
	_ func(d api.Date) (int, api.Errno)                                = civil.Weekday
	_ func(d api.Date) (int, api.Errno)                                = civil.YearDay
	_ func(d api.Date, first, least int) (year, week int, e api.Errno) = civil.Week
	_ func(d api.Date, n int) (api.Date, api.Errno)                    = civil.AddMonths
	_ func(ms int64, minutes int) (api.Date, api.Clock, api.Errno)     = civil.Split
	_ func(d api.Date, c api.Clock, minutes int) (int64, api.Errno)    = civil.Join

	// dates
	_ func(s string) ([]api.Field, int, api.Errno)                                                   = dates.Parse
	_ func(l []api.Field) (string, api.Errno)                                                        = dates.Print
	_ func(n api.DateNames) api.Errno                                                                = dates.CheckNames
	_ func(l []api.Field, n api.DateNames, system string, ms int64, minutes int) (string, api.Errno) = dates.Format
	_ func(l []api.Field, n api.DateNames, system, s string) (api.Date, api.Clock, api.Errno)        = dates.Read

	// since
	_ func(rows []api.SinceRow) api.Errno                                                                                       = since.Check
	_ func(seconds int64) (unit int, n int64)                                                                                   = since.Best
	_ func(rows []api.SinceRow, set api.Set, p api.Pattern, y api.Symbols, unit int, d api.Dec, words bool) (string, api.Errno) = since.Format

	// locale
	_ func(l api.Locale) api.Errno                = locale.Check
	_ func(l api.Locale) (string, api.Errno)      = locale.Print
	_ func(s string) (api.Locale, int, api.Errno) = locale.Parse
	_ func(child, parent api.Locale) api.Locale   = locale.Inherit
	_ func() api.Locale                           = locale.Root

	// token
	_ func(s string, mode int) ([]api.Tok, int, api.Errno) = token.Lex
	_ func(s string) string                                = token.AutoQuote
	_ func(s string, mode, sort int) (string, api.Errno)   = token.Quote

	// tree
	_ func(s string, mode int) (api.Msg, int, api.Errno) = tree.Parse
	_ func(m api.Msg) int                                = tree.Depth
	_ func(m api.Msg) int                                = tree.Count
	_ func(t int) (string, bool)                         = tree.Type
	_ func(s string) (int, bool)                         = tree.ByType

	// unparse
	_ func(m api.Msg) api.Errno                     = unparse.Check
	_ func(m api.Msg, mode int) (string, api.Errno) = unparse.Print
	_ func(m api.Msg) api.Msg                       = unparse.Norm
	_ func(a, b api.Msg) bool                       = unparse.Same

	// check
	_ func(m api.Msg) ([]api.Need, api.Errno)                            = check.Infer
	_ func(l []api.Need, args []api.Arg) api.Errno                       = check.Fits
	_ func(m api.Msg, cardinal, ordinal api.Set) ([]api.Note, api.Errno) = check.Lint

	// mean
	_ func(l api.Locale, kind int, style string, a api.Arg) (string, api.Errno) = mean.Show
	_ func(m api.Msg, l api.Locale, args []api.Arg) (string, api.Errno)         = mean.Format

	// code
	_ func(p api.Prog) (depth, at int, e api.Errno) = code.Verify
	_ func(p api.Prog) (string, api.Errno)          = code.Encode
	_ func(b string) (api.Prog, int, api.Errno)     = code.Decode
	_ func(p api.Prog) (string, api.Errno)          = code.List

	// lower
	_ func(m api.Msg) (api.Prog, api.Errno)             = lower.Lower
	_ func(s string, mode int) (string, int, api.Errno) = lower.Compile

	// machine
	_ func(b string, l api.Locale, args []api.Arg) (string, api.Errno)                   = machine.Run
	_ func(b string, l api.Locale, args []api.Arg) (steps []int, depth int, e api.Errno) = machine.Trace

	// bind
	_ func(m api.Msg) ([]string, api.Errno)                              = bind.Names
	_ func(m api.Msg, l api.Locale, args []api.Arg) (api.Msg, api.Errno) = bind.Bind
	_ func(m api.Msg) (api.Msg, api.Errno)                               = bind.Pseudo

	// bundle
	_ func(b api.Bundle) api.Errno                           = bundle.Check
	_ func(b api.Bundle) (string, api.Errno)                 = bundle.Print
	_ func(s string) (api.Bundle, int, api.Errno)            = bundle.Parse
	_ func(b api.Bundle) (string, api.Errno)                 = bundle.Pack
	_ func(s string) (api.Bundle, api.Errno)                 = bundle.Unpack
	_ func(b api.Bundle, key string) (string, bool)          = bundle.Find
	_ func(source, other api.Bundle) ([]api.Diff, api.Errno) = bundle.Compare

	// serve
	_ func(l []api.Locale, parents []api.Pair) (*serve.Server, api.Errno) = serve.New
	_ func(*serve.Server, api.Bundle) (uint64, api.Errno)                 = (*serve.Server).Load
	_ func(*serve.Server, string, string, []api.Arg) api.Told             = (*serve.Server).Format
	_ func(*serve.Server) api.Stats                                       = (*serve.Server).Stats
	_ func(*serve.Server, [][]api.Ask) ([][]api.Told, api.Errno)          = (*serve.Server).Crowd

	// console
	_ func() *console.Console               = console.New
	_ func(*console.Console, string) string = (*console.Console).Line
	_ func(s string) string                 = console.Run
)
