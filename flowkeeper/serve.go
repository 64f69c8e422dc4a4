package flowkeeper

import "flowkeeper/api"

// Serve does commands as they come, each with an answer, until there are no more (P28).
func Serve(e *Engine, commands <-chan api.Command) <-chan api.Answer {
	answers := make(chan api.Answer)
	go e.serve(commands, answers)
	return answers
}

// serve does the commands, and ends when no more come. No channel is one on which none ever does.
func (e *Engine) serve(commands <-chan api.Command, answers chan<- api.Answer) {
	defer close(answers)
	if commands == nil {
		return
	}
	calls := e.calls()
	for c := range commands {
		answers <- answerOf(calls, c)
	}
}

// answerOf: what comes of a command; of one of no such name nothing.
func answerOf(calls map[int]func(api.Command) api.Answer, c api.Command) api.Answer {
	call, ok := calls[c.Op]
	if !ok {
		return api.Answer{}
	}
	return call(c)
}

// calls: by the names of commands.
func (e *Engine) calls() map[int]func(api.Command) api.Answer {
	return map[int]func(api.Command) api.Answer{
		api.Submit:   e.submitted,
		api.Poll:     e.polled,
		api.Beat:     byNumber(e.Beat),
		api.Complete: byNumber(e.Complete),
		api.Fail:     byNumber(e.Fail),
		api.Cancel:   byNumber(e.Cancel),
		api.Tick:     byNumber(e.Tick),
		api.Seed:     byNumber(e.Seed),
		api.Query:    e.queried,
	}
}

func (e *Engine) submitted(c api.Command) api.Answer {
	run, err := e.Submit([]byte(c.Data))
	return api.Answer{Err: err, N: run}
}

func (e *Engine) polled(api.Command) api.Answer {
	task, _, err := e.Poll()
	return api.Answer{Err: err, Task: task}
}

func (e *Engine) queried(c api.Command) api.Answer {
	info, err := e.Query(c.N)
	return api.Answer{Err: err, Info: info}
}

// byNumber: of a call that takes a number and says an error or nothing.
func byNumber(call func(n uint64) error) func(api.Command) api.Answer {
	return func(c api.Command) api.Answer { return api.Answer{Err: call(c.N)} }
}
