package races

import (
	"ravel/api"
	"ravel/run"
)

// past tells of each thread how many of its deeds, from its first one on, are known of: those that are ahead.
type past [api.MaxThreads]int

// learn adds what is known of elsewhere.
func (p *past) learn(other past) {
	for thread, many := range other {
		p[thread] = max(p[thread], many)
	}
}

// line has, of a channel with room, what was done up to each send and to each receive; of any one, up to its close.
type line struct {
	sends, takes []past
	shut         past
}

// knowing has what each thread knows of while a run goes on, by which each of its deeds is ahead of what comes behind others.
type knowing struct {
	threads [api.MaxThreads]past
	lines   map[int]*line // by the channels' numbers
}

// order answers whether one deed of a run, by its place, is ahead of another one.
func order(deeds []run.Deed) func(a, b int) bool {
	k := knowing{lines: map[int]*line{}}
	var pasts []past
	for _, d := range deeds {
		pasts = append(pasts, k.upTo(d.Thread))
		k.goOn(d)
	}
	return func(a, b int) bool {
		thread := deeds[a].Thread
		return a != b && pasts[a][thread] <= pasts[b][thread]
	}
}

// upTo counts one more deed of a thread, and answers what was done up to it.
func (k *knowing) upTo(thread int) past {
	k.threads[thread][thread]++
	return k.threads[thread]
}

// goOn hands on what is ahead of what comes behind a deed. What others find of it later is what was done up to it: not what is just ahead of what comes behind it.
func (k *knowing) goOn(d run.Deed) {
	self := &k.threads[d.Thread]
	done := *self
	switch d.Doing {
	case run.Begins:
		k.threads[d.On].learn(done)
	case run.Meets:
		self.learn(k.upTo(d.On))
		k.threads[d.On].learn(done)
	case run.Sends:
		l := k.line(d.On)
		if earlier := len(l.sends) - d.Room; earlier >= 0 {
			self.learn(l.takes[earlier])
		}
		l.sends = append(l.sends, done)
	case run.Takes:
		l := k.line(d.On)
		self.learn(l.sends[len(l.takes)])
		l.takes = append(l.takes, done)
	case run.Shuts:
		k.line(d.On).shut = done
	case run.FindsShut:
		self.learn(k.line(d.On).shut)
	}
}

// line answers that of a channel.
func (k *knowing) line(channel int) *line {
	if k.lines[channel] == nil {
		k.lines[channel] = &line{}
	}
	return k.lines[channel]
}
