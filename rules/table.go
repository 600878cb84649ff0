package rules

import "stickler/api"

// all is what is written of each rule, by their numbers, from 1 on.
func all() [api.Rules]entry {
	return [api.Rules]entry{
		{"first", "3.4", "the first frame of each side is SETTINGS without ACK"},
		{"preface", "3.4", "the client's first 24 bytes are the preface"},
		{"size", "4.2", "a frame is not longer than its receiver lets"},
		{"order", "6.10", "nothing stands between the parts of a field block"},
		{"form", "6", "a frame is right in itself"},
		{"value", "6.5.2", "settings have values that may be"},
		{"ack", "6.5.3", "what is acknowledged was sent"},
		{"spread", "6.9.2", "settings make no window too large"},
		{"away", "6.8", "the last stream of GOAWAY does not rise"},
		{"idle", "5.1", "nothing is sent on a stream that was not begun"},
		{"number", "5.1.1", "new streams have numbers that rise"},
		{"reserved", "5.1", "little is sent on a stream that was promised"},
		{"ended", "5.1", "nothing more is sent by who has ended"},
		{"closed", "5.1", "nothing is sent on a stream that both have ended"},
		{"reset", "5.1", "nothing is sent on a stream by who has reset it"},
		{"forgotten", "5.1", "nothing is sent on a stream that was forgotten"},
		{"step", "6.9", "a window grows by one at least"},
		{"window", "6.9.1", "a window does not become too large"},
		{"conn", "6.9.1", "data stay within the connection's window"},
		{"stream", "6.9.1", "data stay within the stream's window"},
		{"push", "6.6", "nothing is promised to who does not want it"},
		{"promise", "6.6", "promises are made on a stream of the client's that is open"},
		{"promised", "5.1.1", "promised streams have numbers that rise"},
		{"many", "5.1.2", "not too many streams are open"},
		{"table", "4.3", "a field block can be read"},
		{"update", "4.3.1", "a table is not too large"},
		{"missing", "4.3.1", "a table that must become smaller does"},
		{"field", "8.2.1", "names and values have bytes that may be"},
		{"barred", "8.2.2", "no field is one of the connection's own"},
		{"pseudo", "8.3", "the pseudo-fields are those that must be"},
		{"length", "8.1.1", "data have the length that was told"},
		{"body", "8.1", "data stand where they may"},
		{"trailer", "8.1", "fields behind data end the stream"},
		{"safe", "8.4", "what is promised is asked by GET or HEAD"},
		{"client", "8.4", "clients promise nothing"},
	}
}
