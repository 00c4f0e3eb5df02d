package impl

import (
	"iter"
	"slices"
	"strconv"
	"strings"
)

// Error codes.
const (
	OK          = 0
	ErrInvalid  = 1
	ErrRange    = 2
	ErrLimit    = 3
	ErrState    = 4
	ErrSyntax   = 5
	ErrNotFound = 6
	ErrBudget   = 7
	ErrProof    = 8
)

// Limits of stamps.
const (
	MaxKinds   = 8
	MaxValue   = 500
	MaxPostage = 1000
	MaxHave    = 50
	MaxStamps  = 12
	MaxLetters = 6
)

// never stands for a number of stamps where none can pay; it is greater than any number that can.
const never = 1 << 30

// Stamp tells how many stamps of a value one has.
type Stamp struct {
	Value int16
	Have  int16
}

// tally has a number for each kind of stamp, and 0 for kinds that are not there.
type tally [MaxKinds]int64

// payment tells with which stamps an amount is paid, and how many they are.
type payment struct {
	counts tally
	stamps int64
	amount int64
}

// refusal is what a payment or a refund that cannot be made panics with.
type refusal interface {
	refusedWith() int64
}

// unpayable is the refusal of a stock that pays no amount in a range.
type unpayable struct{}

func (unpayable) refusedWith() int64 { return ErrNotFound }

// CodeName returns the name of an error code.
func CodeName(code int64) string {
	names := [...]string{
		OK:          "ok",
		ErrInvalid:  "invalid",
		ErrRange:    "range",
		ErrLimit:    "limit",
		ErrState:    "state",
		ErrSyntax:   "syntax",
		ErrNotFound: "notfound",
		ErrBudget:   "budget",
		ErrProof:    "proof",
	}
	if code < 0 || code >= int64(len(names)) {
		return ""
	}
	return names[code]
}

// ValidValues reports whether values are valid.
func ValidValues(values []int64) bool {
	if len(values) < 1 || len(values) > MaxKinds {
		return false
	}
	before := int64(0)
	for _, value := range values {
		if value <= before || value > MaxValue {
			return false
		}
		before = value
	}
	return true
}

// isPostage reports whether an amount is in the range of postage.
func isPostage(amount int64) bool {
	return 0 <= amount && amount <= MaxPostage
}

// checkValues returns the first error of values and an amount.
func checkValues(values []int64, amount int64) int64 {
	if !ValidValues(values) {
		return ErrInvalid
	}
	if !isPostage(amount) {
		return ErrRange
	}
	return OK
}

// waysUpTo returns for each amount from 0 to most how many counts pay it.
func waysUpTo(values []int64, most int64) []int64 {
	ways := make([]int64, most+1)
	ways[0] = 1
	for _, value := range values {
		for amount := value; amount <= most; amount++ {
			ways[amount] += ways[amount-value]
		}
	}
	return ways
}

// CanPay reports whether a postage can be paid.
func CanPay(values []int64, postage int64) (bool, int64) {
	if code := checkValues(values, postage); code != OK {
		return false, code
	}
	return waysUpTo(values, postage)[postage] > 0, OK
}

// FewestStamps returns the fewest stamps for a postage.
func FewestStamps(values []int64, postage int64) ([]int64, int64, int64) {
	if code := checkValues(values, postage); code != OK {
		return nil, 0, code
	}
	paid, code := tryPay(plentyOf(values), postage, postage)
	if code != OK {
		return nil, 0, code
	}
	return slices.Clone(paid.counts[:len(values)]), paid.stamps, OK
}

// plentyOf returns stamps of the values, more of each one than any postage needs; this is not a valid stock.
func plentyOf(values []int64) []Stamp {
	stock := make([]Stamp, len(values))
	for i, value := range values {
		stock[i] = Stamp{Value: int16(value), Have: MaxPostage}
	}
	return stock
}

// GreedyStamps takes the greatest stamps first.
func GreedyStamps(values []int64, postage int64) ([]int64, int64, int64) {
	if code := checkValues(values, postage); code != OK {
		return nil, 0, code
	}
	paid := payGreedily(values, postage)
	if paid.amount < postage {
		return nil, 0, ErrNotFound
	}
	return slices.Clone(paid.counts[:len(values)]), paid.stamps, OK
}

// payGreedily returns what is paid of a postage if the greatest stamps are taken first.
func payGreedily(values []int64, postage int64) payment {
	var paid payment
	for i, value := range slices.Backward(values) {
		count := (postage - paid.amount) / value
		paid.counts[i] = count
		paid.stamps += count
		paid.amount += count * value
	}
	return paid
}

// FirstWrongGreedy returns the least postage for which greedy stamps are wrong.
func FirstWrongGreedy(values []int64) (int64, int64) {
	if !ValidValues(values) {
		return 0, ErrInvalid
	}
	fewest := fewestTable(plentyOf(values), MaxPostage)[0]
	for postage := int64(1); postage <= MaxPostage; postage++ {
		if fewest[postage] == never {
			continue
		}
		paid := payGreedily(values, postage)
		if paid.amount < postage || paid.stamps > fewest[postage] {
			return postage, OK
		}
	}
	return 0, ErrNotFound
}

// WaysToPay returns how many counts pay a postage.
func WaysToPay(values []int64, postage int64) (int64, int64) {
	if code := checkValues(values, postage); code != OK {
		return 0, code
	}
	return waysUpTo(values, postage)[postage], OK
}

// GapsUpTo returns all gaps up to an amount.
func GapsUpTo(values []int64, most int64) ([]int64, int64) {
	if code := checkValues(values, most); code != OK {
		return nil, code
	}
	var gaps []int64
	for amount, ways := range waysUpTo(values, most) {
		if ways == 0 {
			gaps = append(gaps, int64(amount))
		}
	}
	return gaps, OK
}

// GreatestGap returns the greatest gap.
func GreatestGap(values []int64) (int64, int64) {
	if !ValidValues(values) {
		return 0, ErrInvalid
	}
	if commonDivisor(values) > 1 {
		return 0, ErrState
	}
	gap := lastGap(values)
	if gap == 0 {
		return 0, ErrNotFound
	}
	return gap, OK
}

// commonDivisor returns the greatest common divisor of values.
func commonDivisor(values []int64) int64 {
	divisor := int64(0)
	for _, value := range values {
		for value != 0 {
			divisor, value = value, divisor%value
		}
	}
	return divisor
}

// lastGap returns the greatest gap of values without a common divisor, or 0 if they have no gap.
func lastGap(values []int64) int64 {
	payable := []bool{true}
	gap, inRow := int64(0), int64(0)
	// With as many payable amounts in a row as the least value is worth, one more stamp of it pays each one behind them.
amounts:
	for amount := int64(1); inRow < values[0]; amount++ {
		for _, value := range values {
			if value <= amount && payable[amount-value] {
				payable = append(payable, true)
				inRow++
				continue amounts
			}
		}
		payable = append(payable, false)
		gap, inRow = amount, 0
	}
	return gap
}

// LeastOver returns the least amount that can be paid.
func LeastOver(values []int64, postage int64) (int64, int64) {
	if code := checkValues(values, postage); code != OK {
		return 0, code
	}
	// A multiple of the least value is never farther away than that value.
	ways := waysUpTo(values, postage+values[0])
	amount := postage
	for ways[amount] == 0 {
		amount++
	}
	return amount, OK
}

// checkStamps returns the first error of values and a number of stamps.
func checkStamps(values []int64, stamps int64) int64 {
	if !ValidValues(values) {
		return ErrInvalid
	}
	if stamps < 0 || stamps > MaxStamps {
		return ErrRange
	}
	return OK
}

// ReachOf returns the reach of values with so many stamps.
func ReachOf(values []int64, stamps int64) (int64, int64) {
	if code := checkStamps(values, stamps); code != OK {
		return 0, code
	}
	return reachWith(values, stamps), OK
}

// reachWith returns the reach of values, in any order, with so many stamps.
func reachWith(values []int64, stamps int64) int64 {
	most := stamps * MaxValue
	fewest := []int64{0}
	for amount := int64(1); amount <= most; amount++ {
		least := int64(never)
		for _, value := range values {
			if value <= amount {
				least = min(least, fewest[amount-value]+1)
			}
		}
		if least > stamps {
			return amount - 1
		}
		fewest = append(fewest, least)
	}
	return most
}

// BestValue returns the value with which the reach is greatest.
func BestValue(values []int64, stamps int64) (int64, int64, int64) {
	if code := checkStamps(values, stamps); code != OK {
		return 0, 0, code
	}
	if len(values) == MaxKinds {
		return 0, 0, ErrLimit
	}
	best, most := int64(0), int64(-1)
	for value := range otherValues(values) {
		reach := reachWith(append(slices.Clone(values), value), stamps)
		if reach > most {
			best, most = value, reach
		}
	}
	return best, most, OK
}

// otherValues yields all values that a stamp can have, but for some, ascending.
func otherValues(values []int64) iter.Seq[int64] {
	return func(yield func(int64) bool) {
		for value := int64(1); value <= MaxValue; value++ {
			if !slices.Contains(values, value) && !yield(value) {
				return
			}
		}
	}
}

// ValidStock reports whether a stock is valid.
func ValidStock(stock []Stamp) bool {
	if len(stock) > MaxKinds {
		return false
	}
	before := int16(0)
	for _, stamp := range stock {
		if stamp.Value <= before || stamp.Value > MaxValue {
			return false
		}
		if stamp.Have < 0 || stamp.Have > MaxHave {
			return false
		}
		before = stamp.Value
	}
	return true
}

// SameStock reports whether two lists are equal.
func SameStock(a, b []Stamp) bool {
	return slices.Equal(a, b)
}

// StockValue returns the sum of all stamps.
func StockValue(stock []Stamp) (int64, int64) {
	if !ValidStock(stock) {
		return 0, ErrInvalid
	}
	sum := int64(0)
	for _, stamp := range stock {
		sum += int64(stamp.Value) * int64(stamp.Have)
	}
	return sum, OK
}

// fewestTable has a row for each kind of stamps, and one behind them.
// A row tells for each amount from 0 to most how few stamps of its kind and those behind it pay it, or never.
func fewestTable(stock []Stamp, most int64) [][]int64 {
	wide := int(most) + 1
	cells := make([]int64, (len(stock)+1)*wide)
	rows := make([][]int64, len(stock)+1)
	for i := range rows {
		// Without room behind its end no row can grow into the next one.
		rows[i] = cells[i*wide : (i+1)*wide : (i+1)*wide]
	}
	last := rows[len(stock)]
	for amount := range last {
		last[amount] = never
	}
	last[0] = 0
	for i, stamp := range slices.Backward(stock) {
		for amount := range rows[i] {
			rows[i][amount] = fewestWith(stamp, rows[i+1], int64(amount))
		}
	}
	return rows
}

// fewestWith returns how few stamps pay an amount with some of a kind and those of the row behind it, or never.
func fewestWith(stamp Stamp, behind []int64, amount int64) int64 {
	value, have := int64(stamp.Value), int64(stamp.Have)
	fewest := int64(never)
	for count := int64(0); count <= have && count*value <= amount; count++ {
		fewest = min(fewest, count+behind[amount-count*value])
	}
	return fewest
}

// firstCounts returns the counts that come first of those with the fewest stamps for an amount that can be paid.
func firstCounts(stock []Stamp, rows [][]int64, amount int64) tally {
	var counts tally
	for i, stamp := range stock {
		fewest := rows[i][amount]
		for counts[i]+rows[i+1][amount] != fewest {
			counts[i]++
			amount -= int64(stamp.Value)
		}
	}
	return counts
}

// pay pays the least amount that stock can pay, of those from least to most; it panics with a refusal if there is none.
func pay(stock []Stamp, least, most int64) payment {
	rows := fewestTable(stock, most)
	for amount := least; amount <= most; amount++ {
		if stamps := rows[0][amount]; stamps != never {
			return payment{firstCounts(stock, rows, amount), stamps, amount}
		}
	}
	panic(unpayable{})
}

// tryPay pays as pay does, and returns the code of a refusal.
func tryPay(stock []Stamp, least, most int64) (payment, int64) {
	return try(func() payment { return pay(stock, least, most) })
}

// try returns what a function returns, or the code of the refusal with which it panics.
func try[R any](act func() R) (result R, code int64) {
	defer func() {
		cause := recover()
		if refused, ok := cause.(refusal); ok {
			code = refused.refusedWith()
		} else if cause != nil {
			// No function may panic, but what is no refusal must not look like a result either.
			code = ErrState
		}
	}()
	return act(), OK
}

// checkStock returns the first error of a stock and a postage.
func checkStock(stock []Stamp, postage int64) int64 {
	if !ValidStock(stock) {
		return ErrInvalid
	}
	if !isPostage(postage) {
		return ErrRange
	}
	return OK
}

// PayFrom returns the fewest stamps of a stock for a postage.
func PayFrom(stock []Stamp, postage int64) ([]int64, int64, int64) {
	if code := checkStock(stock, postage); code != OK {
		return nil, 0, code
	}
	paid, code := tryPay(stock, postage, postage)
	if code != OK {
		return nil, 0, code
	}
	return slices.Clone(paid.counts[:len(stock)]), paid.stamps, OK
}

// OverFrom returns the stamps of a stock that pay over least.
func OverFrom(stock []Stamp, postage int64) ([]int64, int64, int64) {
	if code := checkStock(stock, postage); code != OK {
		return nil, 0, code
	}
	// An amount that is over by a whole stamp is not the least one: that stamp could be left away.
	paid, code := tryPay(stock, postage, postage+MaxValue)
	if code != OK {
		return nil, 0, code
	}
	return slices.Clone(paid.counts[:len(stock)]), paid.amount, OK
}

// TakeFrom returns the stock without some counts.
func TakeFrom(stock []Stamp, counts []int64) ([]Stamp, int64) {
	if !ValidStock(stock) {
		return nil, ErrInvalid
	}
	if len(counts) != len(stock) {
		return nil, ErrRange
	}
	for _, count := range counts {
		if count < 0 {
			return nil, ErrRange
		}
	}
	for i, count := range counts {
		if count > int64(stock[i].Have) {
			return nil, ErrState
		}
	}
	var taken tally
	copy(taken[:], counts)
	return without(stock, taken), OK
}

// without returns the stock that is left if stamps that it has are taken.
func without(stock []Stamp, taken tally) []Stamp {
	left := slices.Clone(stock)
	for i := range left {
		left[i].Have -= int16(taken[i])
	}
	return left
}

// checkLetters returns the first error of a stock and letters.
func checkLetters(stock []Stamp, letters []int64) int64 {
	if !ValidStock(stock) {
		return ErrInvalid
	}
	for _, letter := range letters {
		if !isPostage(letter) {
			return ErrRange
		}
	}
	if len(letters) > MaxLetters {
		return ErrLimit
	}
	return OK
}

// SpendAll pays letters one after the other.
func SpendAll(stock []Stamp, letters []int64) ([]Stamp, []int64, int64) {
	if code := checkLetters(stock, letters); code != OK {
		return nil, nil, code
	}
	left := slices.Clone(stock)
	var sent []int64
	for i, letter := range letters {
		paid, code := tryPay(left, letter, letter)
		if code == OK {
			left = without(left, paid.counts)
			sent = append(sent, int64(i))
		}
	}
	return left, sent, OK
}

// MostLetters returns the most letters that can be paid.
func MostLetters(stock []Stamp, letters []int64) ([]int64, int64) {
	if code := checkLetters(stock, letters); code != OK {
		return nil, code
	}
	// What can be paid later depends only on the stamps that have been taken: of all lists that took the same, one is kept.
	lists := map[tally][]int64{{}: nil}
	for i, letter := range letters {
		lists = withLetter(stock, lists, int64(i), letter)
	}
	var best []int64
	for _, list := range lists {
		if isBetter(list, best) {
			best = list
		}
	}
	return best, OK
}

// withLetter returns the best lists, by the stamps that they take, if each one may have one more letter.
func withLetter(stock []Stamp, lists map[tally][]int64, index, letter int64) map[tally][]int64 {
	next := map[tally][]int64{}
	for taken, list := range lists {
		keepBetter(next, taken, list)
		paid, code := tryPay(without(stock, taken), letter, letter)
		if code != OK {
			continue
		}
		for i, count := range paid.counts {
			taken[i] += count
		}
		keepBetter(next, taken, append(slices.Clone(list), index))
	}
	return next
}

// keepBetter keeps a list if there is none yet that takes the same, or a worse one.
func keepBetter(lists map[tally][]int64, taken tally, list []int64) {
	if old, ok := lists[taken]; !ok || isBetter(list, old) {
		lists[taken] = list
	}
}

// isBetter reports whether a list is longer than another one, or as long, and comes before it.
func isBetter(list, other []int64) bool {
	if len(list) != len(other) {
		return len(list) > len(other)
	}
	return slices.Compare(list, other) < 0
}

// StockText returns the text of a stock.
func StockText(stock []Stamp) string {
	if !ValidStock(stock) {
		return ""
	}
	words := make([]string, len(stock))
	for i, stamp := range stock {
		words[i] = tellPair(int64(stamp.Value), "x", int64(stamp.Have))
	}
	return strings.Join(words, " ")
}

// ReadStock returns the stock with the given text.
func ReadStock(text string) ([]Stamp, int64) {
	return readWords(text, readStamp, StockText)
}

// readWords returns the list whose text, as it is told, is the given one, reading it word by word; ErrSyntax if there is none.
func readWords[E any](text string, read func(word string) (E, bool), tell func(list []E) string) ([]E, int64) {
	if text == "" {
		return nil, OK
	}
	var list []E
	for _, word := range strings.Split(text, " ") {
		one, ok := read(word)
		if !ok {
			return nil, ErrSyntax
		}
		list = append(list, one)
	}
	// A number can be written in several ways, but only one of them is in a text that is told.
	if tell(list) != text {
		return nil, ErrSyntax
	}
	return list, OK
}

// readStamp returns the stamp that a word tells, and whether there is one.
func readStamp(word string) (Stamp, bool) {
	value, have, ok := readPair(word, "x")
	return Stamp{Value: int16(value), Have: int16(have)}, ok
}

// readPair returns the two numbers of a word, with a mark between them, and whether there are such numbers.
// A number may be too great for the field for which it is read; the word that is told of this field is then another one.
func readPair(word, mark string) (int64, int64, bool) {
	one, other, _ := strings.Cut(word, mark)
	first, errFirst := strconv.ParseInt(one, 10, 64)
	second, errSecond := strconv.ParseInt(other, 10, 64)
	return first, second, errFirst == nil && errSecond == nil
}

// tellPair returns the word of two numbers with a mark between them.
func tellPair(first int64, mark string, second int64) string {
	return strconv.FormatInt(first, 10) + mark + strconv.FormatInt(second, 10)
}
