package side

import (
	"sync"

	"deedbox/api"
	"deedbox/file"
)

// made: what became of the task of a number.
type made[A any] struct {
	at     int
	answer A
	err    error
}

// each task's answer, by so many workers. None of them works any more when it answers.
func each[T, A any](tasks []T, workers int, do func(task T) (A, error)) ([]A, error) {
	numbers, results := make(chan int), make(chan made[A])
	var group sync.WaitGroup
	for range min(workers, len(tasks)) {
		group.Add(1)
		go func() {
			defer group.Done()
			work(tasks, do, numbers, results)
		}()
	}
	all := gather(len(tasks), numbers, results)
	close(numbers)
	group.Wait()
	return inOrder(all)
}

// work on tasks, as long as numbers come.
func work[T, A any](tasks []T, do func(task T) (A, error), numbers <-chan int, results chan<- made[A]) {
	for at := range numbers {
		answer, err := do(tasks[at])
		results <- made[A]{at: at, answer: answer, err: err}
	}
}

// gather what is made of n numbers, each in its place, whoever is done first. Numbers go out and results come in by one select: else all workers could wait with a result while the next number waits for one of them.
func gather[A any](n int, numbers chan<- int, results <-chan made[A]) []made[A] {
	all := make([]made[A], n)
	next := 0
	for taken := 0; taken < n; {
		// A nil channel takes nothing: there is no number left.
		out := numbers
		if next == n {
			out = nil
		}
		select {
		case out <- next:
			next++
		case m := <-results:
			all[m.at] = m
			taken++
		}
	}
	return all
}

// inOrder: the answers, or the first error, by the tasks and not by the time.
func inOrder[A any](all []made[A]) ([]A, error) {
	answers := make([]A, len(all))
	for i, m := range all {
		if m.err != nil {
			return nil, &api.Fault{At: i, Err: file.Bare(m.err)}
		}
		answers[i] = m.answer
	}
	return answers, nil
}
