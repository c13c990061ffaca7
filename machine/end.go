package machine

// An early is thrown where a run ends early; without a reason it is an exit.
type early struct{ reason error }

// GiveUp ends the run for that reason.
func (m *Machine) GiveUp(reason error) { panic(early{reason}) }

// Check gives up, if there is an error.
func (m *Machine) Check(err error) {
	if err != nil {
		m.GiveUp(err)
	}
}

// Exit ends what Attempt does, and all calls in it.
func (m *Machine) Exit() { panic(early{}) }

// Attempt does a part of a run, up to its end or to where it gives up, and
// answers the reason for that; nil, if there was none or it was an exit.
func (m *Machine) Attempt(part func()) (reason error) {
	defer func() {
		switch thrown := recover().(type) {
		case nil:
		case early:
			m.calls = nil
			reason = thrown.reason
		default:
			panic(thrown)
		}
	}()
	part()
	return nil
}
