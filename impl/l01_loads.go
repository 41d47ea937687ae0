package impl

import (
	"errors"
	"iter"
	"math"
	"math/bits"
	"slices"
	"strconv"
	"strings"
)

// Error codes.
const (
	OK          = 0
	ErrInvalid  = 1
	ErrRange    = 2
	ErrLimit    = 3
	ErrState    = 4
	ErrSyntax   = 5
	ErrNotFound = 6
	ErrBudget   = 7
	ErrProof    = 8
)

// Limits of garments.
const (
	Colours     = 6
	MaxHeat     = 95
	MaxWeight   = 2000
	MaxGarments = 8
	MaxHold     = 20000
)

// maxEach is the most that a load costs besides its heat.
const maxEach = 1000

// The checks return these errors; codeOf tells their codes.
var (
	errInvalid  = errors.New("invalid")
	errRange    = errors.New("range")
	errLimit    = errors.New("limit")
	errState    = errors.New("state")
	errSyntax   = errors.New("syntax")
	errNotFound = errors.New("notfound")
	errBudget   = errors.New("budget")
)

// Garment has a colour, heats and a weight.
type Garment struct {
	Colour uint8
	Need   int8
	Most   int8
	Weight int16
}

// Rules tell which colours may be washed with each other.
type Rules [6]uint8

// CodeName returns the name of an error code.
func CodeName(code int64) string {
	names := [...]string{"ok", "invalid", "range", "limit", "state", "syntax", "notfound", "budget", "proof"}
	if code < 0 || code >= int64(len(names)) {
		return ""
	}
	return names[code]
}

// codeOf returns the code of an error that a check has found.
func codeOf(err error) int64 {
	switch {
	case err == nil:
		return OK
	case errors.Is(err, errInvalid):
		return ErrInvalid
	case errors.Is(err, errRange):
		return ErrRange
	case errors.Is(err, errLimit):
		return ErrLimit
	case errors.Is(err, errState):
		return ErrState
	case errors.Is(err, errSyntax):
		return ErrSyntax
	case errors.Is(err, errNotFound):
		return ErrNotFound
	case errors.Is(err, errBudget):
		return ErrBudget
	}
	return ErrProof // no check returns any other error
}

// firstOf returns the first error of several checks, which a caller lists in the order of the document.
func firstOf(checks ...error) error {
	for _, err := range checks {
		if err != nil {
			return err
		}
	}
	return nil
}

func checkWithin(n, least, most int64) error {
	if n < least || n > most {
		return errRange
	}
	return nil
}

func checkHold(hold int64) error {
	return checkWithin(hold, 1, MaxHold)
}

func checkRules(r Rules) error {
	if !ValidRules(r) {
		return errInvalid
	}
	return nil
}

func checkGarments(list []Garment) error {
	for _, g := range list {
		if !ValidGarment(g) {
			return errInvalid
		}
	}
	return nil
}

func checkCount(list []Garment) error {
	if len(list) > MaxGarments {
		return errLimit
	}
	return nil
}

func checkAlone(hold int64, list []Garment) error {
	for _, g := range list {
		if int64(g.Weight) > hold {
			return errNotFound
		}
	}
	return nil
}

// ValidRules reports whether r is valid.
func ValidRules(r Rules) bool {
	for a, set := range r {
		if set>>Colours != 0 || !r.allow(uint8(a), uint8(a)) {
			return false
		}
		for b := range a {
			if r.allow(uint8(a), uint8(b)) != r.allow(uint8(b), uint8(a)) {
				return false
			}
		}
	}
	return true
}

// allow reports whether the colour a may be washed with the colour b.
func (r Rules) allow(a, b uint8) bool {
	return r[a]>>b&1 != 0
}

// meet reports whether two valid garments may meet.
func (r Rules) meet(a, b Garment) bool {
	return r.allow(a.Colour, b.Colour) && max(a.Need, b.Need) <= min(a.Most, b.Most)
}

// partners returns the colours that may be washed with every colour of a set.
func (r Rules) partners(set uint8) uint8 {
	all := uint8(1<<Colours - 1)
	for c := range membersOf(set) {
		all &= r[c]
	}
	return all
}

// fullSets gives, ascending, the sets of colours to which no colour can be added.
func (r Rules) fullSets() iter.Seq[uint8] {
	return func(yield func(uint8) bool) {
		for set := uint8(1); set < 1<<Colours; set++ {
			// A set of colours that go together is within its partners; the others of these could be added.
			if r.partners(set) == set && !yield(set) {
				return
			}
		}
	}
}

// ValidGarment reports whether g is valid.
func ValidGarment(g Garment) bool {
	return g.Colour < Colours &&
		0 <= g.Need && g.Need <= g.Most && g.Most <= MaxHeat &&
		1 <= g.Weight && g.Weight <= MaxWeight
}

// SameGarments reports whether two lists are equal.
func SameGarments(a, b []Garment) bool {
	return slices.Equal(a, b)
}

// MayMeet reports whether two garments may be washed with each other.
func MayMeet(r Rules, a, b Garment) (bool, int64) {
	if err := firstOf(checkRules(r), checkGarments([]Garment{a, b})); err != nil {
		return false, codeOf(err)
	}
	return r.meet(a, b), OK
}

// HeatsFor returns the heats that suit all garments.
func HeatsFor(list []Garment) (int64, int64, int64) {
	if err := firstOf(checkGarments(list), checkCount(list)); err != nil {
		return 0, 0, codeOf(err)
	}
	low, high := int64(0), int64(MaxHeat)
	for _, g := range list {
		low, high = max(low, int64(g.Need)), min(high, int64(g.Most))
	}
	if low > high {
		return 0, 0, ErrState
	}
	return low, high, OK
}

// ColourSets returns the greatest sets of colours.
func ColourSets(r Rules) ([]uint8, int64) {
	if err := checkRules(r); err != nil {
		return nil, codeOf(err)
	}
	var sets []uint8
	for set := range r.fullSets() {
		sets = append(sets, set)
	}
	return sets, OK
}

// basket has a checked list of garments for a machine. Sets of its garments are bits, by their indices.
type basket struct {
	list  []Garment
	meets [MaxGarments]uint8
	hold  int64
}

func newBasket(r Rules, hold int64, list []Garment) basket {
	return basket{list: list, meets: meetingSets(r.meet, list), hold: hold}
}

// meetingSets returns for each garment the set of those that it may meet, itself among them.
func meetingSets(meet func(a, b Garment) bool, list []Garment) [MaxGarments]uint8 {
	known := map[Garment]uint8{}
	var sets [MaxGarments]uint8
	for i, g := range list {
		set, ok := known[g]
		if !ok {
			for k, other := range list {
				if meet(g, other) {
					set |= 1 << k
				}
			}
			known[g] = set
		}
		sets[i] = set
	}
	return sets
}

// membersOf gives the members of a set, ascending.
func membersOf(set uint8) iter.Seq[int] {
	return func(yield func(int) bool) {
		for rest := set; rest != 0; rest &= rest - 1 {
			if !yield(bits.TrailingZeros8(rest)) {
				return
			}
		}
	}
}

func indicesOf(set uint8) []int64 {
	var indices []int64
	for i := range membersOf(set) {
		indices = append(indices, int64(i))
	}
	return indices
}

// setsBelow gives all sets of the numbers below count, in the order of their lists.
func setsBelow(count int) iter.Seq[uint8] {
	return func(yield func(uint8) bool) {
		var grow func(set uint8, from int) bool
		grow = func(set uint8, from int) bool {
			if !yield(set) {
				return false
			}
			for i := from; i < count; i++ {
				if !grow(set|1<<i, i+1) {
					return false
				}
			}
			return true
		}
		grow(0, 0)
	}
}

func (b basket) all() uint8 {
	return uint8(1<<len(b.list) - 1)
}

func (b basket) weightOf(set uint8) int64 {
	sum := int64(0)
	for i := range membersOf(set) {
		sum += int64(b.list[i].Weight)
	}
	return sum
}

// heatOf returns the least heat that suits all garments of a load.
func (b basket) heatOf(set uint8) int64 {
	heat := int64(0)
	for i := range membersOf(set) {
		heat = max(heat, int64(b.list[i].Need))
	}
	return heat
}

func (b basket) isLoad(set uint8) bool {
	for i := range membersOf(set) {
		if set&^b.meets[i] != 0 {
			return false
		}
	}
	return set != 0 && b.weightOf(set) <= b.hold
}

// isApart reports whether no two garments of a set may meet.
func (b basket) isApart(set uint8) bool {
	for i := range membersOf(set) {
		if set&b.meets[i] != 1<<i {
			return false
		}
	}
	return true
}

// apartSet returns the most garments that have to be apart.
func (b basket) apartSet() uint8 {
	best := uint8(0)
	for set := range setsBelow(len(b.list)) {
		if b.isApart(set) && bits.OnesCount8(set) > bits.OnesCount8(best) {
			best = set
		}
	}
	return best
}

// setsOf returns the sets that loads tell, by their numbers, and whether the loads are right.
func (b basket) setsOf(loads []int64) ([MaxGarments]uint8, bool) {
	var none, sets [MaxGarments]uint8
	if len(loads) != len(b.list) {
		return none, false
	}
	for i, n := range loads {
		if n < 0 || n >= MaxGarments {
			return none, false
		}
		sets[n] |= 1 << i
	}
	for _, set := range sets {
		if set != 0 && !b.isLoad(set) {
			return none, false
		}
	}
	return sets, true
}

// bestLoads returns the right loads with the least sum of prices, of several ones those that come first, and this sum.
// It needs each garment alone to be a load.
func (b basket) bestLoads(price func(set uint8) int64) ([]int64, int64) {
	var sets [MaxGarments]uint8
	loads := make([]int64, len(b.list))
	best, least := []int64(nil), int64(math.MaxInt64)
	var try func(i, used int)
	try = func(i, used int) {
		if i == len(b.list) {
			if sum := sumOf(price, sets); sum < least {
				best, least = slices.Clone(loads), sum
			}
			return
		}
		// Numbers are taken in turn: other numbers for the same loads come later as a list.
		for n := range used + 1 {
			if !b.isLoad(sets[n] | 1<<i) {
				continue
			}
			loads[i] = int64(n)
			sets[n] |= 1 << i
			try(i+1, max(used, n+1))
			sets[n] &^= 1 << i
		}
	}
	try(0, 0)
	return best, least
}

// sumOf adds the prices of loads; a number without garments is no load.
func sumOf(price func(set uint8) int64, sets [MaxGarments]uint8) int64 {
	sum := int64(0)
	for _, set := range sets {
		if set != 0 {
			sum += price(set)
		}
	}
	return sum
}

// IsLoad reports whether garments are a load.
func IsLoad(r Rules, hold int64, list []Garment) (bool, int64) {
	if err := firstOf(checkRules(r), checkGarments(list), checkHold(hold), checkCount(list)); err != nil {
		return false, codeOf(err)
	}
	b := newBasket(r, hold, list)
	return b.isLoad(b.all()), OK
}

// CheckLoads reports whether loads are right.
func CheckLoads(r Rules, hold int64, list []Garment, loads []int64) (bool, int64) {
	if err := firstOf(checkRules(r), checkGarments(list), checkHold(hold), checkCount(list)); err != nil {
		return false, codeOf(err)
	}
	_, right := newBasket(r, hold, list).setsOf(loads)
	return right, OK
}

// GreedyLoads puts each garment into the first load in which it can be.
func GreedyLoads(r Rules, hold int64, list []Garment) ([]int64, int64, int64) {
	if err := firstOf(checkRules(r), checkGarments(list), checkHold(hold), checkCount(list), checkAlone(hold, list)); err != nil {
		return nil, 0, codeOf(err)
	}
	b := newBasket(r, hold, list)
	var sets [MaxGarments]uint8
	loads := make([]int64, len(list))
	used := 0
	for i := range list {
		n := 0
		for !b.isLoad(sets[n] | 1<<i) {
			n++ // ends at an empty load, as each garment alone is one
		}
		sets[n] |= 1 << i
		loads[i] = int64(n)
		used = max(used, n+1)
	}
	return loads, int64(used), OK
}

// FewestLoads returns the fewest loads.
func FewestLoads(r Rules, hold int64, list []Garment) ([]int64, int64, int64) {
	if err := firstOf(checkRules(r), checkGarments(list), checkHold(hold), checkCount(list), checkAlone(hold, list)); err != nil {
		return nil, 0, codeOf(err)
	}
	one := func(uint8) int64 { return 1 }
	loads, count := newBasket(r, hold, list).bestLoads(one)
	return loads, count, OK
}

// priceFor returns what a load costs, if each one costs so much besides its heat.
func (b basket) priceFor(each int64) func(set uint8) int64 {
	return func(set uint8) int64 { return each + b.heatOf(set) }
}

// CostOf returns the cost of loads.
func CostOf(r Rules, hold int64, list []Garment, loads []int64, each int64) (int64, int64) {
	if err := firstOf(checkRules(r), checkGarments(list), checkHold(hold), checkWithin(each, 0, maxEach), checkCount(list)); err != nil {
		return 0, codeOf(err)
	}
	b := newBasket(r, hold, list)
	sets, right := b.setsOf(loads)
	if !right {
		return 0, ErrState
	}
	return sumOf(b.priceFor(each), sets), OK
}

// CheapestLoads returns the cheapest loads.
func CheapestLoads(r Rules, hold int64, list []Garment, each int64) ([]int64, int64, int64) {
	if err := firstOf(checkRules(r), checkGarments(list), checkHold(hold), checkWithin(each, 0, maxEach), checkCount(list), checkAlone(hold, list)); err != nil {
		return nil, 0, codeOf(err)
	}
	b := newBasket(r, hold, list)
	loads, cost := b.bestLoads(b.priceFor(each))
	return loads, cost, OK
}

// ApartSet returns the most garments that have to be apart.
func ApartSet(r Rules, list []Garment) ([]int64, int64) {
	if err := firstOf(checkRules(r), checkGarments(list), checkCount(list)); err != nil {
		return nil, codeOf(err)
	}
	return indicesOf(newBasket(r, MaxHold, list).apartSet()), OK
}

// LoadsBound returns a bound of how many loads there are.
func LoadsBound(r Rules, hold int64, list []Garment) (int64, int64) {
	if err := firstOf(checkRules(r), checkGarments(list), checkHold(hold), checkCount(list)); err != nil {
		return 0, codeOf(err)
	}
	b := newBasket(r, hold, list)
	byWeight := (b.weightOf(b.all()) + hold - 1) / hold
	return max(int64(bits.OnesCount8(b.apartSet())), byWeight), OK
}

// FitsWith returns the garments that can be added to a load.
func FitsWith(r Rules, hold int64, load []Garment, list []Garment) ([]int64, int64) {
	if err := firstOf(checkRules(r), checkGarments(load), checkGarments(list), checkHold(hold), checkCount(load), checkCount(list)); err != nil {
		return nil, codeOf(err)
	}
	b := newBasket(r, hold, load)
	if len(load) > 0 && !b.isLoad(b.all()) {
		return nil, ErrState
	}
	left := hold - b.weightOf(b.all())
	var fitting []int64
	for i, g := range list {
		clash := slices.ContainsFunc(load, func(other Garment) bool { return !r.meet(g, other) })
		if !clash && int64(g.Weight) <= left {
			fitting = append(fitting, int64(i))
		}
	}
	return fitting, OK
}

// HeaviestLoad returns the heaviest load.
func HeaviestLoad(r Rules, hold int64, list []Garment) ([]int64, int64, int64) {
	if err := firstOf(checkRules(r), checkGarments(list), checkHold(hold), checkCount(list)); err != nil {
		return nil, 0, codeOf(err)
	}
	b := newBasket(r, hold, list)
	best := uint8(0)
	for set := range setsBelow(len(list)) {
		if b.isLoad(set) && b.weightOf(set) > b.weightOf(best) {
			best = set
		}
	}
	if best == 0 {
		return nil, 0, ErrNotFound
	}
	return indicesOf(best), b.weightOf(best), OK
}

// GarmentsText returns the text of garments.
func GarmentsText(list []Garment) string {
	if firstOf(checkGarments(list), checkCount(list)) != nil {
		return ""
	}
	var text strings.Builder
	for _, g := range list {
		text.WriteString(strconv.Itoa(int(g.Colour)) + "/" + strconv.Itoa(int(g.Need)) + "-" + strconv.Itoa(int(g.Most)))
		text.WriteString(" " + strconv.Itoa(int(g.Weight)) + "\n")
	}
	return text.String()
}

// ReadGarments returns the garments with the given text.
func ReadGarments(text string) ([]Garment, int64) {
	list, err := readLines(text)
	// The lines are read kindly (as "+1" or "01" for 1); only the text of what has been read is right.
	if err == nil && GarmentsText(list) != text {
		err = errSyntax
	}
	if err != nil {
		return nil, codeOf(err)
	}
	return list, OK
}

func readLines(text string) ([]Garment, error) {
	var list []Garment
	for line := range strings.Lines(text) {
		g, err := readGarment(line)
		if err != nil || len(list) == MaxGarments {
			return nil, errSyntax
		}
		list = append(list, g)
	}
	return list, nil
}

func readGarment(line string) (Garment, error) {
	colour, rest, _ := strings.Cut(strings.TrimSuffix(line, "\n"), "/")
	need, rest, _ := strings.Cut(rest, "-")
	most, weight, _ := strings.Cut(rest, " ")
	var numbers [4]int64
	for i, part := range [...]string{colour, need, most, weight} {
		n, err := strconv.ParseInt(part, 10, 16)
		if err != nil {
			return Garment{}, errSyntax
		}
		numbers[i] = n
	}
	return Garment{Colour: uint8(numbers[0]), Need: int8(numbers[1]), Most: int8(numbers[2]), Weight: int16(numbers[3])}, nil
}
