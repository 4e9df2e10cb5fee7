package ops

// line is what the table has of an instruction: how it is called, its shape, and whether it never goes on to the next one.
type line struct {
	name  string
	shape int
	ends  bool
}

// lineOf is the line of an instruction: false, if there is none of that number.
func lineOf(op int) (line, bool) {
	if op < 0 || op > LastOp {
		return line{}, false
	}
	return lines()[op], true
}

// lines are the lines of all instructions, each at its number.
func lines() [LastOp + 1]line {
	return [LastOp + 1]line{
		OpNop: {"nop", ShapeNone, false}, OpIconst: {"iconst", ShapeNumber, false}, OpLconst: {"lconst", ShapeNumber, false},
		OpLdc: {"ldc", ShapePool, false}, OpNull: {"null", ShapeNone, false},
		OpIload: {"iload", ShapeLocal, false}, OpLload: {"lload", ShapeLocal, false}, OpAload: {"aload", ShapeLocal, false},
		OpIstore: {"istore", ShapeLocal, false}, OpLstore: {"lstore", ShapeLocal, false}, OpAstore: {"astore", ShapeLocal, false},
		OpIinc: {"iinc", ShapeCount, false}, OpPop: {"pop", ShapeNone, false}, OpPop2: {"pop2", ShapeNone, false},
		OpDup: {"dup", ShapeNone, false}, OpDupx1: {"dupx1", ShapeNone, false},
		OpDup2: {"dup2", ShapeNone, false}, OpSwap: {"swap", ShapeNone, false},
		OpIadd: {"iadd", ShapeNone, false}, OpIsub: {"isub", ShapeNone, false}, OpImul: {"imul", ShapeNone, false},
		OpIdiv: {"idiv", ShapeNone, false}, OpIrem: {"irem", ShapeNone, false},
		OpIand: {"iand", ShapeNone, false}, OpIor: {"ior", ShapeNone, false}, OpIxor: {"ixor", ShapeNone, false},
		OpIshl: {"ishl", ShapeNone, false}, OpIshr: {"ishr", ShapeNone, false},
		OpIushr: {"iushr", ShapeNone, false}, OpIneg: {"ineg", ShapeNone, false},
		OpLadd: {"ladd", ShapeNone, false}, OpLsub: {"lsub", ShapeNone, false}, OpLmul: {"lmul", ShapeNone, false},
		OpLdiv: {"ldiv", ShapeNone, false}, OpLrem: {"lrem", ShapeNone, false},
		OpLand: {"land", ShapeNone, false}, OpLor: {"lor", ShapeNone, false}, OpLxor: {"lxor", ShapeNone, false},
		OpLneg: {"lneg", ShapeNone, false}, OpLcmp: {"lcmp", ShapeNone, false},
		OpI2l: {"i2l", ShapeNone, false}, OpL2i: {"l2i", ShapeNone, false},
		OpIfeq: {"ifeq", ShapeJump, false}, OpIfne: {"ifne", ShapeJump, false},
		OpIflt: {"iflt", ShapeJump, false}, OpIfge: {"ifge", ShapeJump, false},
		OpIfgt: {"ifgt", ShapeJump, false}, OpIfle: {"ifle", ShapeJump, false},
		OpIcmpeq: {"icmpeq", ShapeJump, false}, OpIcmpne: {"icmpne", ShapeJump, false},
		OpIcmplt: {"icmplt", ShapeJump, false}, OpIcmpge: {"icmpge", ShapeJump, false},
		OpIcmpgt: {"icmpgt", ShapeJump, false}, OpIcmple: {"icmple", ShapeJump, false},
		OpAcmpeq: {"acmpeq", ShapeJump, false}, OpAcmpne: {"acmpne", ShapeJump, false},
		OpIfnull: {"ifnull", ShapeJump, false}, OpIfnonnull: {"ifnonnull", ShapeJump, false},
		OpGoto: {"goto", ShapeJump, true}, OpTswitch: {"tswitch", ShapeTable, true}, OpLswitch: {"lswitch", ShapeKeys, true},
		OpGetstatic: {"getstatic", ShapePool, false}, OpPutstatic: {"putstatic", ShapePool, false},
		OpGetfield: {"getfield", ShapePool, false}, OpPutfield: {"putfield", ShapePool, false},
		OpNew: {"new", ShapePool, false}, OpNewints: {"newints", ShapeNone, false},
		OpNewlongs: {"newlongs", ShapeNone, false}, OpNewrefs: {"newrefs", ShapePool, false},
		OpLength: {"length", ShapeNone, false}, OpIaget: {"iaget", ShapeNone, false},
		OpLaget: {"laget", ShapeNone, false}, OpAaget: {"aaget", ShapeNone, false},
		OpIaput: {"iaput", ShapeNone, false}, OpLaput: {"laput", ShapeNone, false}, OpAaput: {"aaput", ShapeNone, false},
		OpCast: {"cast", ShapePool, false}, OpIs: {"is", ShapePool, false}, OpThrow: {"throw", ShapeNone, true},
		OpCallstatic: {"callstatic", ShapePool, false}, OpCallvirtual: {"callvirtual", ShapePool, false},
		OpCallinterface: {"callinterface", ShapePool, false}, OpCallspecial: {"callspecial", ShapePool, false},
		OpIreturn: {"ireturn", ShapeNone, true}, OpLreturn: {"lreturn", ShapeNone, true},
		OpAreturn: {"areturn", ShapeNone, true}, OpReturn: {"return", ShapeNone, true},
		OpIout: {"iout", ShapeNone, false}, OpLout: {"lout", ShapeNone, false}, OpIin: {"iin", ShapeNone, false},
	}
}
