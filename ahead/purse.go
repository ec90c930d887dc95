package ahead

// Counts: how often fuel was asked; what was paid, and what of it was given back; how many segments were entered.
type Counts struct {
	Asked, Paid, Back, Entered int64
}

// purse is the fuel that is left, and what was done with the rest.
type purse struct {
	Counts
	left int64
}

// begin: a segment is entered. Is there enough left for so many of its instructions? Then they are paid.
func (p *purse) begin(count int) bool {
	p.Entered++
	return p.pay(count)
}

// pay: is there so much left? Then it is paid.
func (p *purse) pay(cost int) bool {
	p.Asked++
	if p.left < int64(cost) {
		return false
	}
	p.left -= int64(cost)
	p.Paid += int64(cost)
	return true
}

// back gives back so much of what was paid.
func (p *purse) back(cost int) {
	p.left += int64(cost)
	p.Back += int64(cost)
}

// spent: what was paid and not given back.
func (p *purse) spent() int64 {
	return p.Paid - p.Back
}
