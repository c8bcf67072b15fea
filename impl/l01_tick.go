package impl

import "strconv"

const (
	MaxTick = 1000000000
	MaxList = 300
)

// Where a number lies relative to the range 0..MaxTick.
const (
	belowRange = iota
	inRange
	aboveRange
)

const (
	ticksPerUnit  = 1000
	fractionBytes = 4 // the dot and three digits
)

// moment is a number offered as a tick; it need not be one.
type moment int

func (m moment) side() int {
	switch {
	case m < 0:
		return belowRange
	case m > MaxTick:
		return aboveRange
	}
	return inRange
}

func (m moment) limited() int {
	switch m.side() {
	case belowRange:
		return 0
	case aboveRange:
		return MaxTick
	}
	return int(m)
}

func allTicks(list ...int) bool {
	for _, t := range list {
		if moment(t).side() != inRange {
			return false
		}
	}
	return true
}

func TickOk(t int) bool { return allTicks(t) }

func AddTick(t int, d int) int {
	if !TickOk(t) || d < -MaxTick || d > MaxTick {
		return -1
	}
	return moment(t + d).limited()
}

func Since(from int, now int) int {
	if !allTicks(from, now) {
		return -1
	}
	return moment(now - from).limited()
}

func DueAt(from int, after int, now int) bool {
	return allTicks(from, after, now) && after > 0 && AddTick(from, after) <= now
}

func SoonestOf(list []int) int {
	if len(list) > MaxList {
		return -1
	}
	soonest := -1
	for _, t := range list {
		if TickOk(t) && (soonest < 0 || t < soonest) {
			soonest = t
		}
	}
	return soonest
}

func SumTicks(list []int) int {
	if len(list) > MaxList || !allTicks(list...) {
		return -1
	}
	sum := 0
	for _, t := range list {
		sum = AddTick(sum, t)
	}
	return sum
}

func TickText(t int) string {
	if !TickOk(t) {
		return ""
	}
	// The added unit keeps the leading zeros of the fraction; its own digit is cut off.
	fraction := strconv.Itoa(ticksPerUnit + t%ticksPerUnit)[1:]
	return strconv.Itoa(t/ticksPerUnit) + "." + fraction
}

func ParseTick(text string) (int, bool) {
	dot := len(text) - fractionBytes
	if dot < 1 || len(text) > len(TickText(MaxTick)) {
		return 0, false
	}
	t, err := strconv.Atoi(text[:dot] + text[dot+1:])
	// Atoi also accepts signs and leading zeros, and the byte at dot may not be
	// a dot; only the text that formatting returns is accepted.
	if err != nil || TickText(t) != text {
		return 0, false
	}
	return t, true
}
