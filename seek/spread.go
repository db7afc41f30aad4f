package seek

import "sync"

// spread numbers, from 0 on, over workers, each of which takes the next one as soon as it has done with another; it is back when all is done.
func spread(workers, many int, do func(n int)) {
	numbers := make(chan int)
	var all sync.WaitGroup
	all.Add(workers)
	for range workers {
		go func() {
			defer all.Done()
			for n := range numbers {
				do(n)
			}
		}()
	}
	for n := range many {
		numbers <- n
	}
	close(numbers)
	all.Wait()
}
