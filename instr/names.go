package instr

import (
	"strings"

	"bulwark/api"
)

// last is the last of the instructions.
const last = api.Mret

// names has the names of all instructions, as they are counted, from 1 on.
const names = "lui auipcc cjal cjalr beq bne blt bge bltu bgeu " +
	"lb lh lw clc lbu lhu sb sh sw csc " +
	"addi slti sltiu xori ori andi slli srli srai " +
	"add sub sll slt sltu xor srl sra or and " +
	"mul mulh mulhsu mulhu div divu rem remu " +
	"c.incaddrimm c.setboundsimm c.setbounds c.seal c.unseal c.andperm c.setaddr c.incaddr c.testsubset " +
	"c.getperm c.gettype c.getbase c.getlen c.gettag c.move c.cleartag c.getaddr c.sentry " +
	"c.specialrw ecall mret"

// Name answers an instruction's name.
func Name(o api.Op) (string, bool) {
	if o == api.NoOp || o > last {
		return "", false
	}
	return strings.Clone(strings.Fields(names)[o-1]), true
}

// Named answers the instruction of a name.
func Named(s string) (api.Op, bool) {
	for i, name := range strings.Fields(names) {
		if name == s {
			return api.Op(i + 1), true
		}
	}
	return api.NoOp, false
}
