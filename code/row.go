package code

import "headstock/api"

// lowest are the bits 0 to 6.
const lowest = 1<<7 - 1

// row is an instruction's name and form, and the fields that are the same in all of its words: bits 0 to 6, 12 to 14, 25 to 31, and 20 to 24, where a second register would stand.
type row struct {
	name                   string
	form                   byte
	low, mid, high, second int
}

func (r row) bits() int { return r.low | r.mid<<12 | r.second<<20 | r.high<<25 }

// rowOf is an instruction's row; false: there is none.
func rowOf(op int) (row, bool) {
	all := rows()
	if op < 1 || op >= len(all) {
		return row{}, false
	}
	return all[op], true
}

// rows are the rows by their instructions; the first one is none's.
func rows() [api.InAmoAdd + 1]row {
	return [...]row{
		api.InLui:     {"lui", 'U', 0x37, 0, 0x00, 0},
		api.InAuipc:   {"auipc", 'U', 0x17, 0, 0x00, 0},
		api.InJal:     {"jal", 'J', 0x6f, 0, 0x00, 0},
		api.InJalr:    {"jalr", 'I', 0x67, 0, 0x00, 0},
		api.InBeq:     {"beq", 'B', 0x63, 0, 0x00, 0},
		api.InBne:     {"bne", 'B', 0x63, 1, 0x00, 0},
		api.InBlt:     {"blt", 'B', 0x63, 4, 0x00, 0},
		api.InBge:     {"bge", 'B', 0x63, 5, 0x00, 0},
		api.InBltu:    {"bltu", 'B', 0x63, 6, 0x00, 0},
		api.InBgeu:    {"bgeu", 'B', 0x63, 7, 0x00, 0},
		api.InLw:      {"lw", 'I', 0x03, 2, 0x00, 0},
		api.InSw:      {"sw", 'S', 0x23, 2, 0x00, 0},
		api.InAddi:    {"addi", 'I', 0x13, 0, 0x00, 0},
		api.InSlti:    {"slti", 'I', 0x13, 2, 0x00, 0},
		api.InSltiu:   {"sltiu", 'I', 0x13, 3, 0x00, 0},
		api.InXori:    {"xori", 'I', 0x13, 4, 0x00, 0},
		api.InOri:     {"ori", 'I', 0x13, 6, 0x00, 0},
		api.InAndi:    {"andi", 'I', 0x13, 7, 0x00, 0},
		api.InSlli:    {"slli", 'H', 0x13, 1, 0x00, 0},
		api.InSrli:    {"srli", 'H', 0x13, 5, 0x00, 0},
		api.InSrai:    {"srai", 'H', 0x13, 5, 0x20, 0},
		api.InAdd:     {"add", 'R', 0x33, 0, 0x00, 0},
		api.InSub:     {"sub", 'R', 0x33, 0, 0x20, 0},
		api.InSll:     {"sll", 'R', 0x33, 1, 0x00, 0},
		api.InSlt:     {"slt", 'R', 0x33, 2, 0x00, 0},
		api.InSltu:    {"sltu", 'R', 0x33, 3, 0x00, 0},
		api.InXor:     {"xor", 'R', 0x33, 4, 0x00, 0},
		api.InSrl:     {"srl", 'R', 0x33, 5, 0x00, 0},
		api.InSra:     {"sra", 'R', 0x33, 5, 0x20, 0},
		api.InOr:      {"or", 'R', 0x33, 6, 0x00, 0},
		api.InAnd:     {"and", 'R', 0x33, 7, 0x00, 0},
		api.InMul:     {"mul", 'R', 0x33, 0, 0x01, 0},
		api.InMulh:    {"mulh", 'R', 0x33, 1, 0x01, 0},
		api.InMulhu:   {"mulhu", 'R', 0x33, 3, 0x01, 0},
		api.InDiv:     {"div", 'R', 0x33, 4, 0x01, 0},
		api.InDivu:    {"divu", 'R', 0x33, 5, 0x01, 0},
		api.InRem:     {"rem", 'R', 0x33, 6, 0x01, 0},
		api.InRemu:    {"remu", 'R', 0x33, 7, 0x01, 0},
		api.InFence:   {"fence", 'F', 0x0f, 0, 0x00, 0},
		api.InCsrrw:   {"csrrw", 'C', 0x73, 1, 0x00, 0},
		api.InCsrrs:   {"csrrs", 'C', 0x73, 2, 0x00, 0},
		api.InCsrrc:   {"csrrc", 'C', 0x73, 3, 0x00, 0},
		api.InEcall:   {"ecall", 'Z', 0x73, 0, 0x00, 0},
		api.InMret:    {"mret", 'Z', 0x73, 0, 0x18, 2},
		api.InWfi:     {"wfi", 'Z', 0x73, 0, 0x08, 5},
		api.InLr:      {"lr.w", 'L', 0x2f, 2, 0x08, 0},
		api.InSc:      {"sc.w", 'A', 0x2f, 2, 0x0c, 0},
		api.InAmoSwap: {"amoswap.w", 'A', 0x2f, 2, 0x04, 0},
		api.InAmoAdd:  {"amoadd.w", 'A', 0x2f, 2, 0x00, 0},
	}
}
