package turns

// Doing is what a thread does at its mark.
type Doing int

const (
	Ends   Doing = iota
	Prints       // a value
	Shuts        // a channel
	Begins       // another thread
	Trades       // sends or receives: one of its arms
	gone         // nothing any more
)

// Mark is where a thread stands, and waits to be answered.
type Mark struct {
	Does  Doing
	Node  int   // where it stands
	Arms  []Arm // of one that trades
	Other int   // of one that trades: the node that is done when no arm can be; 0: there is none (what stands first is no case)
	Held  any   // what is printed; what is shut; what the thread that begins does first
}

// Arm is something that a thread would send or receive at its mark.
type Arm struct {
	Node    int
	Channel *Channel // perhaps nil
	Sends   bool
	Held    any // what is sent
}

// Answer lets a thread go on behind its mark.
type Answer struct {
	Node int // what was done: the mark's, or the arm's; -1: the thread begins
	Held any // what was received
}

// Channel is what values are handed over by.
type Channel struct {
	Room    int
	Zero    any // what is received when it is shut, and nothing is left
	Number  int // for who sees all acts, to know it again; 0 at first
	held    []any
	closed  bool
	senders crowd // who stands to send on it
	takers  crowd // who stands to receive from it
}

// take answers what was sent first, or the zero value.
func (c *Channel) take() any {
	if len(c.held) == 0 {
		return c.Zero
	}
	first := c.held[0]
	c.held = c.held[1:]
	return first
}
