package bureau

import (
	"isobar/api"
	"isobar/chart"
	"isobar/cone"
	"isobar/glass"
	"isobar/score"
	"isobar/wire"
)

// suite is the suite of a Bureau. It has fields of its own, as those of api.BureauSuite could be changed from outside where a Bureau embeds it.
type suite struct {
	stations []api.BureauStation
	code     api.WireCode
	tariff   api.WireTariff
	blank    api.ChartMap // the map without stations
	watch    api.ConeWatch
	classes  int
	weights  []int
	paper    api.ScorePaper
	days     int
}

// keep returns a suite that shares no memory with the one that is given.
func keep(s api.BureauSuite) suite {
	kept := suite{
		stations: copied(s.Stations),
		code:     s.Code,
		tariff:   s.Tariff,
		blank:    blank(s),
		watch:    s.Watch,
		classes:  s.Classes,
		weights:  copied(s.Weights),
		paper:    s.Paper,
		days:     s.Days,
	}
	for i, station := range kept.stations {
		kept.stations[i].Glass.Checks = copied(station.Glass.Checks)
	}
	kept.code.Fields, kept.code.Turns = copied(s.Code.Fields), copied(s.Code.Turns)
	kept.watch.Reports = copied(s.Watch.Reports)
	kept.watch.Links = copied(s.Watch.Links)
	kept.watch.Ports = copied(s.Watch.Ports)
	return kept
}

// copied returns a copy of a list.
func copied[T any](list []T) []T {
	return append([]T(nil), list...)
}

// blank returns the map of a suite without stations.
func blank(s api.BureauSuite) api.ChartMap {
	return api.ChartMap{Wide: s.Wide, Rows: s.Rows, Slope: s.Slope}
}

// between reports whether a number lies from low to high.
func between(n, low, high int) bool {
	return low <= n && n <= high
}

// span returns the span with two ends.
func span(low, high int) api.Span {
	return api.Span{Low: low, High: high}
}

// soundSuite reports whether a suite is as defined.
func soundSuite(s api.BureauSuite) bool {
	_, tariff := wire.Cost(s.Tariff, 0, 1)
	_, paper := score.Pay(s.Paper, 0)
	for _, e := range [6]api.Errno{
		wire.Check(s.Code),
		tariff,
		chart.Check(blank(s)),
		cone.Check(s.Watch),
		score.Check(api.ScoreSuite{Classes: s.Classes, Weights: s.Weights}),
		paper,
	} {
		if e != api.OK {
			return false
		}
	}
	return soundStations(s) && between(s.Days, 1, api.BureauDays)
}

// soundStations reports whether the stations of a suite whose map is as defined are.
func soundStations(s api.BureauSuite) bool {
	for _, station := range s.Stations {
		// There is an index of a day just if the comparisons agree.
		if _, e := glass.Index(station.Glass, 0); e != api.OK || !between(station.Point, 0, s.Wide*s.Rows-1) {
			return false
		}
	}
	return between(len(s.Stations), 1, api.BureauStations)
}
