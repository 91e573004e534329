package gate

// put puts lines behind the ones that are there; each puts them once for each number from from to to, in place of R (and K is that number less 10).
type (
	put  func(texts ...string)
	each func(from, to int, texts ...string)
)

// enter is a call: c6 is the sealed export, c1 the way back, c2 the stack, c3 the globals, c10 to c15 arguments.
func enter(say put, every each) {
	// The way back is a sentry.
	say("enter: c.gettag c4 c1", "beq c4 c0 fault", "c.gettype c4 c1", "beq c4 c0 fault", "addi c5 c0 4", "bgeu c4 c5 fault")
	// What is called is an export.
	say("c.gettag c4 c6", "beq c4 c0 refuse", "c.gettype c4 c6", "addi c5 c0 4", "bne c4 c5 refuse", "c.unseal c6 c6")
	// The stack is one, of eights, and as long as is asked for.
	say("c.gettag c4 c2", "beq c4 c0 refuse", "c.gettype c4 c2", "bne c4 c0 refuse", "c.getperm c4 c2", "addi c5 c0 39", "bne c4 c5 refuse")
	say("c.getbase c4 c2", "c.getaddr c5 c2", "bltu c5 c4 refuse", "c.getlen c7 c2", "add c7 c7 c4", "bltu c7 c5 refuse", "or c7 c4 c5", "andi c7 c7 7", "bne c7 c0 refuse")
	say("sub c8 c5 c4", "lw c9 16 of c6", "srli c7 c9 8", "bltu c8 c7 refuse")
	// A frame is left, and is kept.
	say("c.specialrw c7 mtdc c0", "c.getbase c4 c7", "c.getlen c5 c7", "add c4 c4 c5", "c.getaddr c5 c7", "addi c5 c5 32", "bltu c4 c5 refuse")
	say("csc c2 0 of c7", "csc c3 8 of c7", "csc c1 16 of c7", "c.incaddrimm c7 c7 32", "c.specialrw c0 mtdc c7")
	// The callee's stack has nothing on it.
	say("c.getbase c4 c2", "c.getaddr c5 c2", "c.setaddr c2 c2 c4", "c.setbounds c2 c2 c8", "c.move c7 c2")
	say("wipe: beq c8 c0 wiped", "csc c0 0 of c7", "c.incaddrimm c7 c7 8", "addi c8 c8 -8", "cjal c0 wipe")
	say("wiped: c.setaddr c2 c2 c5", "clc c1 0 of c6", "clc c3 8 of c6", "andi c9 c9 255")
	// No capability goes by what arguments reach.
	every(10, 15, "addi c4 c0 K", "bltu c4 c9 keepR", "c.move cR c0",
		"keepR: c.gettype c4 cR", "beq c4 c0 openR", "c.cleartag cR cR",
		"openR: addi c4 c0 19", "c.andperm cR cR c4")
	every(4, 9, "c.move cR c0")
	say("cjalr c1 0 of c1")
}

// back is a return: c10, c11 are what is answered.
func back(say put, every each) {
	// The newest frame, and what it keeps.
	say("back: c.specialrw c7 mtdc c0", "c.getbase c4 c7", "c.getaddr c5 c7", "beq c4 c5 stop", "c.incaddrimm c7 c7 -32")
	say("clc c2 0 of c7", "clc c3 8 of c7", "clc c1 16 of c7", "c.specialrw c0 mtdc c7")
	// Nothing is left on the callee's stack.
	say("c.getbase c4 c2", "c.getaddr c5 c2", "sub c8 c5 c4", "c.setaddr c7 c2 c4")
	say("clean: beq c8 c0 cleaned", "csc c0 0 of c7", "c.incaddrimm c7 c7 8", "addi c8 c8 -8", "cjal c0 clean")
	// The label stands on the first line of what is said for 10.
	say("cleaned: c.gettype c4 c10")
	answer := []string{"beq c4 c0 plainR", "c.cleartag cR cR",
		"plainR: c.getperm c4 cR", "andi c4 c4 16", "bne c4 c0 wideR", "c.cleartag cR cR",
		"wideR: addi c4 c0 19", "c.andperm cR cR c4"}
	every(10, 10, answer...)
	say("c.gettype c4 c11")
	every(11, 11, answer...)
	// The caller goes on.
	say("leave: c.move c4 c0")
	every(5, 9, "c.move cR c0")
	every(12, 15, "c.move cR c0")
	say("cjalr c0 0 of c1")
}

// ends are what refuses, what traps, and where it stops.
func ends(say put) {
	say("refuse: addi c10 c0 -2", "c.move c11 c0", "cjal c0 leave")
	say("fault: addi c10 c0 -1", "c.move c11 c0", "cjal c0 back")
	say("trap: c.specialrw c4 mscratch c4", "c.specialrw c4 cause c0", "blt c4 c0 timer", "cjal c0 fault")
	say("timer: c.specialrw c4 mscratch c0", "mret")
	say("stop: cjal c0 stop")
}
