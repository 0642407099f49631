package shell

import "quaver/api"

// command is what must stand behind a command's word, and what it does and answers.
type command struct {
	wants []kind
	do    func(g given) (string, api.Errno)
}

// command is the one of this word, if there is one.
func (s *Shell) command(word string) (command, bool) {
	var c command
	switch word {
	case "new":
		c = command{[]kind{anyName, number}, s.gain}
	case "zero":
		c = command{[]kind{oldName, number}, s.zero}
	case "pole":
		c = command{[]kind{oldName, number}, s.pole}
	case "low":
		c = command{[]kind{anyName, count, tangent}, s.low}
	case "high":
		c = command{[]kind{anyName, count, tangent}, s.high}
	case "series":
		c = command{[]kind{anyName, oldName, oldName}, s.series}
	case "over":
		c = command{[]kind{anyName, oldName}, s.over}
	case "tame":
		c = command{[]kind{oldName}, s.tame}
	case "canon":
		c = command{[]kind{oldName}, s.canon}
	case "show":
		c = command{[]kind{oldName}, s.show}
	case "stable":
		c = command{[]kind{oldName}, s.stable}
	case "sections":
		c = command{[]kind{oldName}, s.sections}
	case "sure":
		c = command{[]kind{oldName}, s.sure}
	case "at":
		c = command{[]kind{oldName, number}, s.at}
	case "start":
		c = command{[]kind{oldName}, s.start}
	case "guard":
		c = command{[]kind{oldName}, s.guard}
	case "push":
		c = command{[]kind{oldName, samples}, s.push}
	case "count":
		c = command{[]kind{oldName}, s.came}
	case "drop":
		c = command{[]kind{oldName}, s.drop}
	case "names":
		c = command{nil, s.all}
	}
	return c, c.do != nil
}
