package network_test

import (
	"slices"
	"testing"

	"amnesia/api"
)

// P14.4: For and Each.

func TestFor(t *testing.T) {
	w := paired(t, 7, 16)
	for _, to := range addresses(7, 16) {
		w.send(packet(0, to, "x"), api.OK)
	}
	for _, to := range slices.Backward(addresses(7, 16)) {
		w.inject(packet(to, to, "y"), api.OK)
	}
	if l := w.net.For(0); !slices.Equal(l, []int{0, 45}) {
		t.Error(l)
	}
	if l := w.net.For(22); !slices.Equal(l, []int{22, 23}) {
		t.Error(l)
	}
	for _, none := range append([]int{23, 24, 30}, farNumbers...) {
		if l := w.net.For(none); len(l) != 0 {
			t.Error(none, l)
		}
	}
}

// Not whom it is from: To alone is asked.
func TestForIsTo(t *testing.T) {
	w := paired(t, 3, 2, packet(1, 2, "a"), packet(2, 1, "b"))
	w.inject(packet(-1, 0, "c"), api.OK)
	if !slices.Equal(w.net.For(1), []int{1}) || !slices.Equal(w.net.For(2), []int{0}) || len(w.net.For(-1)) != 0 {
		t.Error(w.net.For(1), w.net.For(2), w.net.For(-1))
	}
}

// Left behind each of its places; then it is gone over again, from its first place on.
func TestEachLeftEarlyAndAgain(t *testing.T) {
	w := letters(t, 6)
	each := w.net.Each()
	for left := 1; left <= 6; left++ {
		told := 0
		for k, p := range each {
			if k != told || !same(p, w.pool[k]) {
				t.Fatal(k, p)
			}
			told++
			if told == left {
				break
			}
		}
		if told != left {
			t.Fatal(told, left)
		}
		expectEach(t, "again", each, w.pool)
	}
}

// Who says that it is enough is not asked again.
func TestEachStopsWhenTold(t *testing.T) {
	asked := 0
	letters(t, 6).net.Each()(func(int, api.Packet) bool {
		asked++
		return asked < 3
	})
	if asked != 3 {
		t.Errorf("asked %d times, want 3", asked)
	}
}

// The inner one leaves the outer one alone, left early or not.
func TestEachNested(t *testing.T) {
	w := letters(t, 5)
	each := w.net.Each()
	outer := 0
	for k, p := range each {
		if k != outer || !same(p, w.pool[k]) {
			t.Fatal(k, p)
		}
		outer++
		expectEach(t, "nested", each, w.pool)
		expectEach(t, "nested, another one", w.net.Each(), w.pool)
		for inner := range each {
			if inner == k {
				break
			}
		}
	}
	if outer != 5 {
		t.Fatal(outer)
	}
}

// changes: calls that change the pool, by name.
func changes() map[string]func(*pair) {
	return map[string]func(*pair){
		"Send":        func(w *pair) { w.send(packet(0, 1, "s"), api.OK) },
		"Inject":      func(w *pair) { w.inject(packet(-1, 1, "i"), api.OK) },
		"Copy":        func(w *pair) { w.copy(1) },
		"Take first":  func(w *pair) { w.take(0) },
		"Take middle": func(w *pair) { w.take(2) },
		"Take last":   func(w *pair) { w.take(len(w.pool) - 1) },
		"Drop first":  func(w *pair) { w.drop(0) },
		"Drop last":   func(w *pair) { w.drop(len(w.pool) - 1) },
		"Turn first":  func(w *pair) { w.turn(0, 0, 3) },
		"Turn last":   func(w *pair) { w.turn(len(w.pool)-1, 0, 3) },
		"Swap":        func(w *pair) { w.swap(0, len(w.pool)-1) },
		"Clear":       func(w *pair) { w.clear() },
		"Drop, Send":  func(w *pair) { w.drop(len(w.pool) - 1); w.send(packet(0, 1, "s"), api.OK) },
		"Drop, Copy":  func(w *pair) { w.drop(len(w.pool) - 1); w.copy(0) },
		"Clear, Send": func(w *pair) { w.clear(); w.send(packet(0, 1, "s"), api.OK) },
	}
}

// Each tells the pool as it was when Each was called: behind any change, and any two.
func TestEachAsItWas(t *testing.T) {
	for first, change := range changes() {
		for second, another := range changes() {
			w := letters(t, 7)
			was, each := copies(w.pool), w.net.Each()
			change(w)
			expectEach(t, first, each, was)
			for len(w.pool) < 4 { // the second change asks for some packets too
				w.send(packet(0, 1, "more"), api.OK)
			}
			between, then := copies(w.pool), w.net.Each()
			another(w)
			expectEach(t, first+", "+second, each, was)
			expectEach(t, first+", "+second+", from between", then, between)
		}
	}
}

// And while it is gone over: the change comes behind each of its places.
func TestEachWhileChanged(t *testing.T) {
	for name, change := range changes() {
		for at := range 6 {
			w := letters(t, 6)
			was, next := copies(w.pool), 0
			for k, p := range w.net.Each() {
				if k != next || !same(p, was[k]) {
					t.Fatalf("%s behind place %d: %d, %v, want %v", name, at, k, p, was[k])
				}
				if next++; k == at {
					change(w)
				}
			}
			if next != 6 {
				t.Fatalf("%s behind place %d: %d packets", name, at, next)
			}
		}
	}
}

// It ends, even if each packet makes two more.
func TestEachEnds(t *testing.T) {
	w := letters(t, 5)
	for k := range w.net.Each() {
		w.copy(k)
		w.send(packet(0, 1, "more"), api.OK)
	}
	if w.net.Len() != 15 {
		t.Error(w.net.Len())
	}
}

func TestEachOfNobody(t *testing.T) {
	letters(t, 2).net.Each()(nil)
	paired(t, 1, 0).net.Each()(nil)
}
