/- deal.Read. -/
import Derived.Test.YtalklogopepjpaaDoorBL0
namespace Go.Proofs.YtalklogopepjpaaDoor.Ca
open Go.RowKit
open Go.Proofs.DB (Pd Rd)

def quad (x y z t : Nat) : Nat → Nat
  | 0 => x
  | 1 => y
  | 2 => z
  | _ => t
def zerD : Nat → Nat := fun _ => 0
/-- What deal.Read returns: the deal whose text it is. -/
def rdD (l : List UInt8) : Option (Nat → Nat) :=
  if Lib.hasPrefix l [78, 58] = true then
    match Lib.splitN (Lib.trimPrefix l [78, 58]) [32] 5 with
    | [a, b, c, d] =>
      match prs a, prs b, prs c, prs d with
      | some x, some y, some z, some t => if Pd (quad x y z t) then some (quad x y z t) else none
      | _, _, _, _ => none
    | _ => none
  else none
def rdV : Option (Nat → Nat) → Value
  | some p => .tuple #[.agg #[.int .u64 (p 0 : Nat), .int .u64 (p 1 : Nat), .int .u64 (p 2 : Nat), .int .u64 (p 3 : Nat)], .int .i64 0]
  | none => .tuple #[.agg #[.int .u64 0, .int .u64 0, .int .u64 0, .int .u64 0], .int .i64 61]
end Go.Proofs.YtalklogopepjpaaDoor.Ca
