package fleet

import "sheaves/api"

// Away: the messages that a script leaves on their way. An outcome tells their
// number alone.
func Away(rogue int, l []api.Act) []api.Message {
	f := begin(rogue)
	for _, a := range l {
		f.act(a)
	}
	return f.away
}
