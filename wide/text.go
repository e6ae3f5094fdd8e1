package wide

import (
	"strconv"
	"strings"

	"yearbook/api"
)

// A group is as many decimal digits as always have room in 64 bits; three of them have room for 2^127.
const (
	groupDigits = 19
	groupSize   = 10_000_000_000_000_000_000
	groupCount  = 3
)

// Text: P1.4.
func Text(a api.Wide) string {
	groups := digitGroups(farFromZero(a))
	top := topGroup(groups)
	text := strconv.FormatUint(groups[top], 10)
	for i := top - 1; i >= 0; i-- {
		text += padded(groups[i])
	}
	if below(a) {
		return "-" + text
	}
	return text
}

// digitGroups tells the lowest group first.
func digitGroups(d distance) [groupCount]uint64 {
	var groups [groupCount]uint64
	for i := range groups {
		d, groups[i] = d.over(groupSize)
	}
	return groups
}

// topGroup tells the group with which the digits begin; 0 itself has one, too.
func topGroup(groups [groupCount]uint64) int {
	top := groupCount - 1
	for top > 0 && groups[top] == 0 {
		top--
	}
	return top
}

// padded tells a group that stands behind another one, whose noughts ahead count.
func padded(group uint64) string {
	digits := strconv.FormatUint(group, 10)
	return strings.Repeat("0", groupDigits-len(digits)) + digits
}
