package rule

import (
	"strings"

	"idiom/api"
	"idiom/decimal"
)

// Spread returns the strings of all numbers of the samples of r.
func Spread(r api.Rule) (ints, decs []string, e api.Errno) {
	if errno := Check(r); errno != api.OK {
		return nil, nil, errno
	}
	ints, ok := spread(r.Ints, api.MaxSamples)
	if !ok {
		return nil, nil, api.ErrFull
	}
	decs, ok = spread(r.Decs, api.MaxSamples-len(ints))
	if !ok {
		return nil, nil, api.ErrFull
	}
	return ints, decs, api.OK
}

// spread lists the numbers of samples; false if there are more than most.
func spread(samples []api.Sample, most int) ([]string, bool) {
	var all []string
	for _, sample := range samples {
		n := sample.Lo
		for {
			if len(all) == most {
				return nil, false
			}
			all = append(all, strings.Clone(n))
			if n == sample.Hi {
				break
			}
			n = successor(n)
		}
	}
	return all, true
}

// successor returns the number that is by one higher in its last digit. It has no error below the end of a range.
func successor(n string) string {
	d, _ := decimal.Parse(n)
	step, _ := decimal.Shift(decimal.Of(1), -len(d.Frac))
	sum, _ := decimal.Add(d, step)
	text, _ := decimal.Print(sum)
	return text
}
