package port

import (
	"strings"

	"slackwater/api"
	"slackwater/ratio"
	"slackwater/tide"
)

const (
	word  = "port" // begins the line 0
	blank = " "    // stands between each two words of it
	end   = "\n"   // stands behind each line
)

// Print tells the text: a line of the name and the mean level, then one of each constituent.
func Print(p api.Port) (string, api.Errno) {
	if f := Check(p); f.Err != api.OK {
		return "", f.Err
	}
	mean, e := ratio.Print(p.Mean)
	if e != api.OK {
		return "", e
	}
	text := word + blank + p.Name + blank + mean + end
	for _, t := range p.Tides {
		line, e := tide.Print(t)
		// A line that is too long by itself makes the text too long.
		if e != api.OK {
			return "", e
		}
		text += line + end
	}
	if len(text) > api.MaxText {
		return "", api.ErrLong
	}
	return text, api.OK
}

// Parse reads a text just as Print tells it. All lines are looked at by themselves ahead of what they come to together.
func Parse(s string) (api.Port, api.Fault) {
	if len(s) > api.MaxText {
		return api.Port{}, api.Fault{Err: api.ErrLong, At: nowhere}
	}
	p, f := readLines(s)
	if f.Err != api.OK {
		return api.Port{}, f
	}
	if f := Check(p); f.Err != api.OK {
		// The constituents stand from the line 1 on, so what has no place comes to the line 0.
		return api.Port{}, api.Fault{Err: f.Err, At: f.At + 1}
	}
	return p, api.Fault{}
}

// readLines reads a port, whether it may be or not, up to the first line that is not as it should be.
func readLines(s string) (api.Port, api.Fault) {
	var p api.Port
lines:
	// The line 0 is asked for even where there is none.
	for at := 0; at == 0 || s != ""; at++ {
		line, rest, ended := strings.Cut(s, end)
		s = rest
		switch {
		case ended && at == 0 && readHead(&p, line):
			continue lines
		case ended && at > 0 && readTide(&p, line):
			continue lines
		}
		return api.Port{}, api.Fault{Err: api.ErrPort, At: at}
	}
	return p, api.Fault{}
}

// readHead reads the line 0 into a port.
func readHead(p *api.Port, line string) bool {
	first, rest, _ := strings.Cut(line, blank)
	// Where a blank is missing the last word is empty, and no fraction's text.
	name, last, _ := strings.Cut(rest, blank)
	mean, e := ratio.Parse(last)
	if first != word || !tide.Name(name) || e != api.OK {
		return false
	}
	// A name in memory of its own doesn't hold on to a long text.
	p.Name, p.Mean = strings.Clone(name), mean
	return true
}

// readTide reads a constituent's line and puts it behind a port's others.
func readTide(p *api.Port, line string) bool {
	t, e := tide.Parse(line)
	if e != api.OK {
		return false
	}
	p.Tides = append(p.Tides, t)
	return true
}
