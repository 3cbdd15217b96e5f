package nemesis_test

import (
	"fmt"
	"math/rand/v2"
	"strconv"
	"strings"
)

// Things drawn.

// leaning is what a drawn plan may have.
type leaning struct {
	stale     bool // stale lines
	crash     bool // crash lines
	unguarded bool
}

// somePlan: one that may be, with whatever there is.
func somePlan(r *rand.Rand) string {
	return leaning{stale: true, crash: true, unguarded: r.IntN(4) == 0}.plan(r, pick(r, 3+r.IntN(25), 3+r.IntN(25), 80))
}

func (a leaning) plan(r *rand.Rand, length int) string {
	f := pick(r, 1, 1, 2, 3)
	text := fmt.Sprintf("group %d %d %d", f, pick(r, 1, 4, 20, 256), 6+r.IntN(4))
	if a.unguarded {
		text += " unguarded"
	}
	text += "\n"
	for range pick(r, 0, 1, 1, 2, 3, 5, 16) {
		text += fmt.Sprintf("client %d\n", pick(r, 0, 0, 3, 255, greatest-2, greatest))
	}
	for range length {
		text += a.line(r, 2*f+1)
		if r.IntN(10) == 0 {
			text += pick(r, "\n", "# a remark\n", "   \n")
		}
	}
	return text
}

func (a leaning) line(r *rand.Rand, nodes int) string {
	node := r.IntN(nodes)
	switch r.IntN(14) {
	case 0, 1:
		return someFault(r)
	case 2:
		text := "split"
		for _, some := range r.Perm(nodes)[:1+r.IntN(nodes)] {
			text += " " + strconv.Itoa(some)
		}
		return text + "\n"
	case 3:
		return "heal\n"
	case 4:
		return fmt.Sprintf("clock %d %d\n", node, pick(r, 0, 1, 1, 2, 3, 9))
	case 5, 6:
		return fmt.Sprintf("load %d\n", pick(r, 1, 2, 3, 5, 20))
	case 7, 8:
		return fmt.Sprintf("run %d\n", pick(r, 1, 2, 3, 6, 10))
	case 9:
		return fmt.Sprintf("churn %d %d\n", pick(r, 0, 20, 50, 100, r.IntN(101)), pick(r, 1, 3, 6, 10))
	case 10:
		if a.crash {
			return fmt.Sprintf("crash %d\n", node)
		}
	case 11:
		return fmt.Sprintf("restart %d\n", node)
	case 12:
		if a.stale {
			return fmt.Sprintf("stale %d\n", node)
		}
	}
	return fmt.Sprintf("calm %d\n", pick(r, 1, 2, 5, 12))
}

func someFault(r *rand.Rand) string {
	shares := make([]int, 4)
	for left := r.IntN(101); left > 0; {
		part := 1 + r.IntN(left)
		shares[r.IntN(4)] += part
		left -= part
	}
	return fmt.Sprintf("fault %d %d %d %d\n", shares[0], shares[1], shares[2], shares[3])
}

// mangled: a plan with a few things in it that are as they should not be, or otherwise.
func mangled(r *rand.Rand, plan string) string {
	l := strings.Split(strings.TrimSuffix(plan, "\n"), "\n")
	for range r.IntN(3) {
		i := pick(r, 0, r.IntN(len(l)), r.IntN(len(l)))
		if l[i] == "" { // Fields of it are none
			l[i] = "heal"
		}
		words := strings.Fields(l[i] + " heal")
		words = words[:max(1, len(words)-1)]
		k := r.IntN(len(words))
		switch r.IntN(9) {
		case 0:
			words[k] = pick(r, noNumbers...)
		case 1, 2, 3:
			words[k] = strconv.Itoa(pick(r, 0, 1, 2, 3, 5, 7, 9, 10, 50, 99, 100, 101, 256, 1999, 2000, 2001, 1<<32, greatest))
		case 4:
			words = append(words[:k], words[k+1:]...)
		case 5:
			words = append(words, pick(r, "0", "1", "6", "unguarded", "#", "x"))
		case 6:
			words = []string{pick(r, "client 0", "group 1 4 6", "run 2000", "split 0 0", "fault 50 50 1 0", "heal", "crash 2", "", "# x", "calm 2001", "stale 3", strings.Repeat("client 1\n", 20)+"client 1")}
		case 7:
			l[i], l[len(l)-1] = l[len(l)-1], l[i]
			continue
		case 8:
			l = append(l[:i:i], append([]string{l[r.IntN(len(l))]}, l[i:]...)...)
			continue
		}
		l[i] = strings.Join(words, pick(r, " ", " ", "  "))
	}
	return strings.Join(l, "\n") + pick(r, "\n", "", "\n\n", "\n#")
}
