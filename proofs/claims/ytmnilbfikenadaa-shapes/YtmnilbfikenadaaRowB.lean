/-
  The document's answer, Row: whether an instruction is one of the table's.
-/
import Derived.Test.YtmnilbfikenadaaLeaf
namespace Go.Proofs.Ytmnilbfikenadaa
open Go.RowKit

/-- An instruction of the document's answer: cells. -/
def insC (op : Int) (imm : Bool) (d s o n : Int) : Array Value := #[.int .i64 op, .bool imm, .int .i64 d, .int .i64 s, .int .i64 o, .int .i64 n]

def rowB (op : Int) (imm : Bool) (d s o n : Int) : Bool :=
  let src := if imm then s == 0 else withinB s 0 7
  let num := (n == 0) || imm
  let none := (d == 0) && (s == 0)
  if withinB op 1 11 then withinB d 0 6 && src && (o == 0) && num
  else if withinB op 20 23 then withinB d 0 6 && src && !imm && (n == 0)
  else if withinB op 24 27 then withinB d 0 7 && src && !imm && (n == 0)
  else if op == 30 then none && !imm && decide (0 ≤ o) && (n == 0)
  else if withinB op 31 36 then withinB d 0 7 && src && decide (0 ≤ o) && num
  else if op == 40 then none && !imm && (o == 0) && withinB n 1 3
  else if op == 41 then none && !imm && (o == 0) && (n == 0)
  else false

end Go.Proofs.Ytmnilbfikenadaa
