package choose

import "idiom/api"

// Range returns the category of a range from numbers of one category to those of another one.
func Range(rows []api.RangeRow, from, to int) (int, api.Errno) {
	if len(rows) > api.MaxRows {
		return 0, api.ErrFull
	}
	for _, row := range rows {
		if !isCategory(row.From) || !isCategory(row.To) || !isCategory(row.Cat) {
			return 0, api.ErrCategory
		}
	}
	if !isCategory(from) || !isCategory(to) {
		return 0, api.ErrCategory
	}
	for _, row := range rows {
		if row.From == from && row.To == to {
			return row.Cat, api.OK
		}
	}
	return to, api.OK
}
