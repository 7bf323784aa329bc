package fell

import (
	"greenhew/api"
	"greenhew/wood"
)

// wetness has the wetness of each sky under which a horse goes.
var wetness = [...]int{api.SkyWet: 7, api.SkyDry: 2, api.SkyFrost: 0}

// noWay stands for the effort of a way that does not exist, as it does in layer 1.
const noWay = -1

// maxLoad is the greatest load of a horse.
const maxLoad = 100

// Loads returns the loads of a day.
func Loads(m api.WoodMap, yard, comp, load int, sky api.Sky) (int, api.Errno) {
	if !isSky(sky) {
		return 0, api.ErrArg
	}
	effort, err := effortOf(m, yard, comp, load, wetness[sky])
	if err != api.OK {
		return 0, err
	}
	if sky == api.SkyStorm || effort == noWay {
		return 0, api.OK
	}
	return api.FellEffort / (2 * effort), api.OK
}

// effortOf returns the effort of a compartment with a load at a wetness, or noWay.
func effortOf(m api.WoodMap, yard, comp, load, wet int) (int, api.Errno) {
	cells, err := wood.Cells(m, comp)
	if err != api.OK {
		return 0, err
	}
	efforts, err := wood.Efforts(m, yard, load, wet)
	if err != api.OK {
		return 0, err
	}
	least := noWay
	for _, cell := range cells {
		if effort := efforts[cell]; effort != noWay && (least == noWay || effort < least) {
			least = effort
		}
	}
	if least == noWay {
		return noWay, api.OK
	}
	return max(least, 1), api.OK
}

// Haul returns the haul of a compartment.
func Haul(m api.WoodMap, yard, comp, load, loads int) (api.FellJob, api.Errno) {
	if !within(loads, 1, api.FellLoads) {
		return api.FellJob{}, api.ErrArg
	}
	for sky := api.SkyStorm; sky <= api.SkyFrost; sky++ {
		daily, err := Loads(m, yard, comp, load, sky)
		if err != api.OK {
			return api.FellJob{}, err
		}
		if daily > 0 {
			return api.FellJob{Days: (loads + daily - 1) / daily, Least: sky}, api.OK
		}
	}
	return api.FellJob{}, api.ErrNone
}
