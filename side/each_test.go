package side

import (
	"errors"
	"runtime"
	"slices"
	"strconv"
	"sync"
	"sync/atomic"
	"testing"
	"time"

	"deedbox/api"
)

func numbers(n int) []int {
	var l []int
	for i := range n {
		l = append(l, i)
	}
	return l
}

// P161: whatever the tasks and the answers are, each answer stands in its task's place.
func TestEach(t *testing.T) {
	for n := range 40 {
		for workers := 1; workers <= api.Workers; workers++ {
			got, err := each(numbers(n), workers, func(i int) (string, error) { return strconv.Itoa(i * i), nil })
			var want []string
			for i := range n {
				want = append(want, strconv.Itoa(i*i))
			}
			right(t, "each", got, err, want...)
		}
	}
}

// P161: each task is done once.
func TestEachOnce(t *testing.T) {
	for workers := 1; workers <= api.Workers; workers++ {
		times := make([]atomic.Int32, 100)
		if _, err := each(numbers(100), workers, func(i int) (int32, error) { return times[i].Add(1), nil }); err != nil {
			t.Error(err)
		}
		for i := range times {
			if times[i].Load() != 1 {
				t.Error(workers, i, times[i].Load())
			}
		}
	}
}

// So many workers are under way at one time, and no more: each task waits for as many others.
func TestSideBySide(t *testing.T) {
	for workers := 1; workers <= api.Workers; workers++ {
		var here, most atomic.Int32
		turns := make([]sync.WaitGroup, 3)
		for i := range turns {
			turns[i].Add(workers)
		}
		late := make(chan bool)
		timer := time.AfterFunc(20*time.Second, func() { close(late) })
		_, err := each(numbers(len(turns)*workers), workers, func(i int) (bool, error) {
			now := here.Add(1)
			for was := most.Load(); was < now && !most.CompareAndSwap(was, now); {
				was = most.Load()
			}
			turns[i/workers].Done()
			all := make(chan bool)
			go func() { turns[i/workers].Wait(); close(all) }()
			select {
			case <-all:
			case <-late:
				return false, errors.New("alone")
			}
			here.Add(-1)
			return true, nil
		})
		timer.Stop()
		if err != nil || most.Load() > int32(workers) {
			t.Fatal(workers, err, most.Load())
		}
	}
}

// P161: the order in which tasks are done is not to be seen: here the last of those under way is done first.
func TestAnyTime(t *testing.T) {
	n := 8
	backwards := func(fails bool) ([]int, error) {
		// Each waits for the one behind it; nobody is behind the last one.
		var after [9]sync.WaitGroup
		for i := range n {
			after[i].Add(1)
		}
		return each(numbers(n), n, func(i int) (int, error) {
			after[i+1].Wait()
			after[i].Done()
			if fails && i%2 == 1 {
				return i, []error{api.ErrText, api.ErrName, api.ErrKind, api.ErrSum}[i/2]
			}
			return i, nil
		})
	}
	got, err := backwards(false)
	right(t, "backwards", got, err, numbers(n)...)
	got, err = backwards(true)
	wrong(t, "backwards", got, err, "text at 1")
}

// P160: a place that an error has is not told, but the task's.
func TestPlaceAside(t *testing.T) {
	l := []error{nil, nil, &api.Fault{At: 7, Err: api.ErrSum}, api.ErrText}
	for workers := 1; workers <= 4; workers++ {
		got, err := each(l, workers, func(err error) (int, error) { return 5, err })
		wrong(t, "place", got, err, "sum at 2")
		var f *api.Fault
		if !errors.As(err, &f) || f.Err != api.ErrSum {
			t.Error(err)
		}
	}
}

// None of the workers is left when it is answered, with an error neither.
func TestNobodyLeft(t *testing.T) {
	st, s := table(t)
	was := runtime.NumGoroutine()
	for workers := 1; workers <= api.Workers; workers++ {
		for _, pairs := range [][][2]int{nil, {{0, 9}}, slices.Repeat([][2]int{{0, 9}}, 100)} {
			_, e1 := Scans(st, s, pairs, workers)
			_, e2 := Scans(nil, s, pairs, workers)
			_, e3 := Plays("part", make([][]string, len(pairs)%41), workers)
			_, e4 := Plays("x", make([][]string, 7), workers)
			if e1 != nil || (e2 != nil) != (len(pairs) > 0) || e3 != nil || e4 == nil {
				t.Error(e1, e2, e3, e4)
			}
		}
	}
	// One that has told the group that it is done may still be on its way out.
	for i := 0; runtime.NumGoroutine() > was && i < 200; i++ {
		time.Sleep(10 * time.Millisecond)
	}
	if now := runtime.NumGoroutine(); now > was {
		t.Errorf("%d goroutines, not %d", now, was)
	}
}

// P2: calls at one time, of one store, do not tell of each other.
func TestCallsAtOneTime(t *testing.T) {
	st, s := table(t)
	var group sync.WaitGroup
	for workers := 1; workers <= api.Workers; workers++ {
		group.Go(func() {
			for range 10 {
				got, err := Scans(st, s, [][2]int{{-5, 9}, {0, 20}, {9, 0}}, workers)
				right(t, "at one time", got, err, 2, 2, 0)
				texts, err := Plays("part", [][]string{{"append 1 a:1:1", "objects"}, {"objects"}}, workers)
				right(t, "at one time", texts, err, "1\n5\n", "2\n")
			}
		})
	}
	group.Wait()
}
