package conn_test

// dice are numbers that look as if they were thrown, and are the same each time.
type dice uint64

func (d *dice) upTo(n int) int {
	*d = *d*6364136223846793005 + 1442695040888963407
	return int(uint64(*d)>>33) % (n + 1)
}

func (d *dice) of(l []int) int { return l[d.upTo(len(l)-1)] }
