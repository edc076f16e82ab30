package impl

import (
	"iter"
	"math/bits"
	"slices"
	"strconv"
	"strings"
)

// Codes of errors.
const (
	OK          = 0
	ErrInvalid  = 1
	ErrRange    = 2
	ErrLimit    = 3
	ErrState    = 4
	ErrSyntax   = 5
	ErrNotFound = 6
	ErrBudget   = 7
	ErrProof    = 8
)

// Limits of families.
const (
	MaxHolders = 7
	MaxGroups  = 200
	MaxWeight  = 1000
	MaxText    = 4000
)

// Family tells by its least groups who may open together.
type Family struct {
	Holders int64
	Groups  [][]int64
}

// holderSet is a group as bits: the bit h is set if the holder h is in it.
type holderSet uint64

func allHolders(holders int64) holderSet { return 1<<holders - 1 }

func (g holderSet) has(h int64) bool { return g>>h&1 == 1 }

func (g holderSet) with(h int64) holderSet { return g | 1<<h }

func (g holderSet) without(h int64) holderSet { return g &^ (1 << h) }

func (g holderSet) within(other holderSet) bool { return g&^other == 0 }

func (g holderSet) size() int64 { return int64(bits.OnesCount64(uint64(g))) }

// swapped returns the group in which the holders i and j are exchanged.
func (g holderSet) swapped(i, j int64) holderSet {
	if g.has(i) == g.has(j) {
		return g
	}
	return g ^ (1<<i | 1<<j)
}

// makeRoom numbers the holders from h on 1 higher, so that nobody is h.
func (g holderSet) makeRoom(h int64) holderSet {
	before := g & allHolders(h)
	return before | (g&^before)<<1
}

// renamed returns the group with order[i] in place of each holder i.
func (g holderSet) renamed(order []int64) holderSet {
	var result holderSet
	for i, h := range order {
		if g.has(int64(i)) {
			result = result.with(h)
		}
	}
	return result
}

// weight returns the sum of the weights of the holders.
func (g holderSet) weight(weights []int64) int64 {
	sum := int64(0)
	for h, weight := range weights {
		if g.has(int64(h)) {
			sum += weight
		}
	}
	return sum
}

func (g holderSet) list() []int64 {
	list := make([]int64, 0, g.size())
	for h := range int64(MaxHolders) {
		if g.has(h) {
			list = append(list, h)
		}
	}
	return list
}

func (g holderSet) text() string {
	if g == 0 {
		return "-"
	}
	var letters []byte
	for _, h := range g.list() {
		letters = append(letters, 'A'+byte(h))
	}
	return string(letters)
}

// setOf returns the bits of a list, and false if it is not a group of so many holders.
func setOf(holders int64, list []int64) (holderSet, bool) {
	var g holderSet
	last := int64(-1)
	for _, h := range list {
		if h <= last || h >= holders {
			return 0, false
		}
		g, last = g.with(h), h
	}
	return g, true
}

// groupsOf yields all groups of so many holders in lexicographic order.
func groupsOf(holders int64) iter.Seq[holderSet] {
	return func(yield func(holderSet) bool) {
		yieldFrom(0, 0, holders, yield)
	}
}

// yieldFrom yields g, and each group that has further holders from first on; false if it has to stop.
func yieldFrom(g holderSet, first, holders int64, yield func(holderSet) bool) bool {
	if !yield(g) {
		return false
	}
	for h := first; h < holders; h++ {
		if !yieldFrom(g.with(h), h+1, holders, yield) {
			return false
		}
	}
	return true
}

// openTable tells for each group of some holders whether it may open.
type openTable struct {
	holders int64
	open    [1 << MaxHolders]bool
}

func newTable(holders int64, least []holderSet) *openTable {
	t := &openTable{holders: holders}
	for g := range groupsOf(holders) {
		t.open[g] = slices.ContainsFunc(least, func(part holderSet) bool { return part.within(g) })
	}
	return t
}

func (t *openTable) opens(g holderSet) bool { return t.open[g] }

func (t *openTable) opensDual(g holderSet) bool { return !t.open[allHolders(t.holders)&^g] }

// isLeast reports whether a group may open, but not if any of its holders leaves.
func (t *openTable) isLeast(g holderSet) bool {
	for h := range t.holders {
		if g.has(h) && t.opens(g.without(h)) {
			return false
		}
	}
	return t.opens(g)
}

// isGreatestBlocked reports whether a group may not open, but may if any holder joins.
func (t *openTable) isGreatestBlocked(g holderSet) bool {
	for h := range t.holders {
		if !g.has(h) && !t.opens(g.with(h)) {
			return false
		}
	}
	return !t.opens(g)
}

func (t *openTable) areAlike(i, j int64) bool {
	for g := range groupsOf(t.holders) {
		if t.opens(g) != t.opens(g.swapped(i, j)) {
			return false
		}
	}
	return true
}

// setsWhere returns the groups of so many holders for which chosen is true, in lexicographic order.
func setsWhere(holders int64, chosen func(holderSet) bool) []holderSet {
	var sets []holderSet
	for g := range groupsOf(holders) {
		if chosen(g) {
			sets = append(sets, g)
		}
	}
	return sets
}

// groupsWhere returns the same groups as lists.
func groupsWhere(holders int64, chosen func(holderSet) bool) [][]int64 {
	groups := [][]int64{}
	for _, g := range setsWhere(holders, chosen) {
		groups = append(groups, g.list())
	}
	return groups
}

// familyWhere returns the family of the groups for which opens is true.
// It has to stay true when holders join, so that the least groups tell all.
func familyWhere(holders int64, opens func(holderSet) bool) Family {
	t := &openTable{holders: holders}
	for g := range groupsOf(holders) {
		t.open[g] = opens(g)
	}
	return Family{Holders: holders, Groups: groupsWhere(holders, t.isLeast)}
}

// tableShelf keeps the tables of the families of one call, by their texts.
type tableShelf map[string]*openTable

// tableOf returns the table of a family, or nil if it is not valid.
func (s tableShelf) tableOf(f Family) *openTable {
	text := FamilyText(f)
	if t := s[text]; t != nil {
		return t
	}
	least, ok := leastSets(f)
	if !ok {
		return nil
	}
	t := newTable(f.Holders, least)
	s[text] = t
	return t
}

func tableOf(f Family) *openTable {
	return tableShelf{}.tableOf(f)
}

// leastSets returns the least groups of a family, and false if it is not valid.
func leastSets(f Family) ([]holderSet, bool) {
	if f.Holders < 1 || f.Holders > MaxHolders {
		return nil, false
	}
	var sets []holderSet
	for i, list := range f.Groups {
		g, ok := setOf(f.Holders, list)
		// The order is checked before the parts, so that not many groups are left to compare.
		if !ok || i > 0 && slices.Compare(f.Groups[i-1], list) >= 0 {
			return nil, false
		}
		sets = append(sets, g)
	}
	return sets, !hasParts(sets)
}

// hasParts reports whether one of the groups has all holders of another one.
func hasParts(sets []holderSet) bool {
	for i, g := range sets {
		for j, other := range sets {
			if i != j && g.within(other) {
				return true
			}
		}
	}
	return false
}

// CodeName returns the name of an error code.
func CodeName(code int64) string {
	switch code {
	case OK:
		return "ok"
	case ErrInvalid:
		return "invalid"
	case ErrRange:
		return "range"
	case ErrLimit:
		return "limit"
	case ErrState:
		return "state"
	case ErrSyntax:
		return "syntax"
	case ErrNotFound:
		return "notfound"
	case ErrBudget:
		return "budget"
	case ErrProof:
		return "proof"
	}
	return ""
}

// ValidFamily reports whether a family is valid.
func ValidFamily(f Family) bool {
	_, ok := leastSets(f)
	return ok
}

// SameFamily reports whether two families are deeply equal.
func SameFamily(f, g Family) bool {
	return f.Holders == g.Holders && slices.EqualFunc(f.Groups, g.Groups, slices.Equal)
}

// FamilyText returns the text of a family.
func FamilyText(f Family) string {
	sets, ok := leastSets(f)
	if !ok {
		return ""
	}
	var text strings.Builder
	text.WriteString("family " + strconv.FormatInt(f.Holders, 10) + "\n")
	for _, g := range sets {
		text.WriteString(g.text() + "\n")
	}
	return text.String()
}

// ReadFamily returns the family with the given text.
func ReadFamily(text string) (Family, int64) {
	if len(text) > MaxText {
		return Family{}, ErrRange
	}
	f := guessFamily(text)
	if !ValidFamily(f) || FamilyText(f) != text {
		return Family{}, ErrSyntax
	}
	return f, OK
}

// guessFamily returns the only family that could have a text.
// It overlooks faults, as comparing the text of its result finds all of them.
func guessFamily(text string) Family {
	head, body, _ := strings.Cut(text, "\n")
	holders, err := strconv.ParseInt(strings.TrimPrefix(head, "family "), 10, 64)
	if err != nil {
		return Family{}
	}
	f := Family{Holders: holders, Groups: [][]int64{}}
	for line := range strings.Lines(body) {
		f.Groups = append(f.Groups, guessGroup(strings.TrimSuffix(line, "\n")))
	}
	return f
}

func guessGroup(line string) []int64 {
	group := []int64{}
	if line == "-" {
		return group
	}
	for _, letter := range []byte(line) {
		group = append(group, int64(letter)-'A')
	}
	return group
}

// GroupText returns the text of a group.
func GroupText(group []int64) string {
	g, ok := setOf(MaxHolders, group)
	if !ok {
		return ""
	}
	return g.text()
}

// FamilyOf returns the family of groups.
func FamilyOf(holders int64, groups [][]int64) (Family, int64) {
	if holders < 1 || holders > MaxHolders || len(groups) > MaxGroups {
		return Family{}, ErrRange
	}
	var sets []holderSet
	for _, list := range groups {
		g, ok := setOf(holders, list)
		if !ok {
			return Family{}, ErrRange
		}
		sets = append(sets, g)
	}
	return familyWhere(holders, newTable(holders, sets).opens), OK
}

// MayOpen reports whether a group may open.
func MayOpen(f Family, group []int64) (bool, int64) {
	t := tableOf(f)
	if t == nil {
		return false, ErrInvalid
	}
	g, ok := setOf(f.Holders, group)
	if !ok {
		return false, ErrRange
	}
	return t.opens(g), OK
}

// OpeningGroups returns all groups that may open.
func OpeningGroups(f Family) ([][]int64, int64) {
	t := tableOf(f)
	if t == nil {
		return nil, ErrInvalid
	}
	return groupsWhere(f.Holders, t.opens), OK
}

// GreatestBlocked returns all greatest groups that may not open.
func GreatestBlocked(f Family) ([][]int64, int64) {
	t := tableOf(f)
	if t == nil {
		return nil, ErrInvalid
	}
	return groupsWhere(f.Holders, t.isGreatestBlocked), OK
}

// DualFamily returns the dual family.
func DualFamily(f Family) (Family, int64) {
	t := tableOf(f)
	if t == nil {
		return Family{}, ErrInvalid
	}
	return familyWhere(f.Holders, t.opensDual), OK
}

// twoTables returns the tables of two families that are to have the same holders.
func twoTables(f, g Family) (*openTable, *openTable, int64) {
	shelf := tableShelf{}
	first, second := shelf.tableOf(f), shelf.tableOf(g)
	if first == nil || second == nil {
		return nil, nil, ErrInvalid
	}
	if f.Holders != g.Holders {
		return nil, nil, ErrRange
	}
	return first, second, OK
}

// EitherFamily returns the family of those who open one of two.
func EitherFamily(f, g Family) (Family, int64) {
	first, second, code := twoTables(f, g)
	if code != OK {
		return Family{}, code
	}
	return familyWhere(f.Holders, func(part holderSet) bool { return first.opens(part) || second.opens(part) }), OK
}

// BothFamilies returns the family of those who open both.
func BothFamilies(f, g Family) (Family, int64) {
	first, second, code := twoTables(f, g)
	if code != OK {
		return Family{}, code
	}
	return familyWhere(f.Holders, func(part holderSet) bool { return first.opens(part) && second.opens(part) }), OK
}

// tableToLeave returns the table of a family that the holder h is to leave.
func tableToLeave(f Family, h int64) (*openTable, int64) {
	t := tableOf(f)
	if t == nil {
		return nil, ErrInvalid
	}
	if h < 0 || h >= f.Holders {
		return nil, ErrRange
	}
	if f.Holders == 1 {
		return nil, ErrState
	}
	return t, OK
}

// WithoutHolder returns the family without a holder.
func WithoutHolder(f Family, h int64) (Family, int64) {
	t, code := tableToLeave(f, h)
	if code != OK {
		return Family{}, code
	}
	return familyWhere(f.Holders-1, func(g holderSet) bool { return t.opens(g.makeRoom(h)) }), OK
}

// TrustHolder returns the family in which a holder always takes part.
func TrustHolder(f Family, h int64) (Family, int64) {
	t, code := tableToLeave(f, h)
	if code != OK {
		return Family{}, code
	}
	return familyWhere(f.Holders-1, func(g holderSet) bool { return t.opens(g.makeRoom(h).with(h)) }), OK
}

// isOrder reports whether a list contains each of so many holders once.
func isOrder(holders int64, order []int64) bool {
	if int64(len(order)) != holders {
		return false
	}
	var seen holderSet
	for _, h := range order {
		if h < 0 || h >= holders || seen.has(h) {
			return false
		}
		seen = seen.with(h)
	}
	return true
}

// RenameHolders returns the family with its holders in another order.
func RenameHolders(f Family, order []int64) (Family, int64) {
	t := tableOf(f)
	if t == nil {
		return Family{}, ErrInvalid
	}
	if !isOrder(f.Holders, order) {
		return Family{}, ErrRange
	}
	return familyWhere(f.Holders, func(g holderSet) bool { return t.opens(g.renamed(order)) }), OK
}

// PutFamily puts a family in place of a holder.
func PutFamily(f Family, h int64, g Family) (Family, int64) {
	shelf := tableShelf{}
	outer, inner := shelf.tableOf(f), shelf.tableOf(g)
	if outer == nil || inner == nil {
		return Family{}, ErrInvalid
	}
	if h < 0 || h >= f.Holders {
		return Family{}, ErrRange
	}
	others := f.Holders - 1
	if others+g.Holders > MaxHolders {
		return Family{}, ErrLimit
	}
	return familyWhere(others+g.Holders, func(part holderSet) bool {
		outside := (part & allHolders(others)).makeRoom(h)
		if inner.opens(part >> others) {
			outside = outside.with(h)
		}
		return outer.opens(outside)
	}), OK
}

// ThresholdFamily returns the family of all groups with so many holders.
func ThresholdFamily(holders, least int64) (Family, int64) {
	if holders < 1 || holders > MaxHolders || least < 0 || least > holders+1 {
		return Family{}, ErrRange
	}
	return familyWhere(holders, func(g holderSet) bool { return g.size() >= least }), OK
}

// WeightedFamily returns the family of all groups with so much weight.
func WeightedFamily(weights []int64, quota int64) (Family, int64) {
	if len(weights) < 1 || len(weights) > MaxHolders || quota < 0 || quota > MaxHolders*MaxWeight+1 {
		return Family{}, ErrRange
	}
	for _, weight := range weights {
		if weight < 0 || weight > MaxWeight {
			return Family{}, ErrRange
		}
	}
	return familyWhere(int64(len(weights)), func(g holderSet) bool { return g.weight(weights) >= quota }), OK
}

// NeededHolders returns the holders of least groups.
func NeededHolders(f Family) ([]int64, int64) {
	least, ok := leastSets(f)
	if !ok {
		return nil, ErrInvalid
	}
	var needed holderSet
	for _, g := range least {
		needed |= g
	}
	return needed.list(), OK
}

// VetoHolders returns the holders without whom nobody may open.
func VetoHolders(f Family) ([]int64, int64) {
	least, ok := leastSets(f)
	if !ok {
		return nil, ErrInvalid
	}
	veto := allHolders(f.Holders)
	for _, g := range least {
		veto &= g
	}
	return veto.list(), OK
}

// AlikeHolders numbers holders by what they are worth.
func AlikeHolders(f Family) ([]int64, int64) {
	t := tableOf(f)
	if t == nil {
		return nil, ErrInvalid
	}
	numbers := make([]int64, f.Holders)
	unused := int64(0)
	for h := range f.Holders {
		like := int64(0)
		for like < h && !t.areAlike(like, h) {
			like++
		}
		if like < h {
			numbers[h] = numbers[like]
			continue
		}
		numbers[h] = unused
		unused++
	}
	return numbers, OK
}

// CountBySize counts groups that may open by their size.
func CountBySize(f Family) ([]int64, int64) {
	t := tableOf(f)
	if t == nil {
		return nil, ErrInvalid
	}
	counts := make([]int64, f.Holders+1)
	for g := range groupsOf(f.Holders) {
		if t.opens(g) {
			counts[g.size()]++
		}
	}
	return counts, OK
}

// SwingsOf counts for each holder the groups that need it.
func SwingsOf(f Family) ([]int64, int64) {
	t := tableOf(f)
	if t == nil {
		return nil, ErrInvalid
	}
	swings := make([]int64, f.Holders)
	for g := range groupsOf(f.Holders) {
		for h := range f.Holders {
			if !t.opens(g) && t.opens(g.with(h)) {
				swings[h]++
			}
		}
	}
	return swings, OK
}
