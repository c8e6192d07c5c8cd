/-
  No cell of these rows narrows 'for every input' (looked for: loops, veiled, ifaces, maps, wideKeys, modest, calm, conditions, laid).
  DERIVED. THE GIVEN ROWS OF THIS SEAT. 3 by the template 'for every input the law returns true; each argument reads behind the call as it read before'; 0 by the template 'total and deterministic' (their statements: YtbpgkigoboobeaaGreatTotals.lean).
  GIVEN WITH THE SEED: the statements are not yours to turn. If you find one false, say at which input.
  Laid BY PROGRAM, IN A SANDBOX (cutbox-rows.mjs): the forced cells as the released guide's own fill.sh prints them over the translation fd423ffac9e59be6… (all of the seat's roots in one cut). By AI agents, Wed Nov 11 2026. No macro, syntax, notation, axiom, sorry.
-/
import Derived.Test.YtbpgkigoboobeaaGreatChecked
import GoSem.Claim
import GoSem.ClaimJoined
import GoSem.ClaimMapViews
import Derived.JoinedTies
import Derived.KernelRfl
namespace Go.Proofs.YtbpgkigoboobeaaGreat
/- THE CELL 'sum', in the pinned program and in every row, IS THE sha256 OF THE DUMP (.gsa) THAT YtbpgkigoboobeaaGreatProg.lean LOADS. Nothing in Lean hashes anything: it is a label: what it is worth is what the hold of that sum in a sandbox is worth. -/
noncomputable def Tryz.pinned : Pinned := { name := "ytbpgkigoboobeaagreat", sum := "fd423ffac9e59be60046a3e073b429a377758f274c10c797f46892e19f038e6a", checked := Tryz.checked }
namespace Rows
def none {H : Type} : Left H := { results := [], args := [] }

/-- 'laws.FnExactSidesOfParts': WHATEVER THE INPUT: true; the input reads as it did. -/
def fnExactSidesOfPartsSpec : ChangeSpec := { name := "fnExactSidesOfParts", fn := fun _ => fun
  | [d1, d2] => { results := [.lit (.bool true)], args := [d1, d2] }
  | _ => none }
def fnExactSidesOfPartsRow : OpenClaim := { program := "ytbpgkigoboobeaagreat", sum := "fd423ffac9e59be60046a3e073b429a377758f274c10c797f46892e19f038e6a", func := "loop.example/g01239/laws.FnExactSidesOfParts", spec := "fnExactSidesOfParts", unfollowed := true, recurses := true, apart := false }
def FnExactSidesOfPartsSaid : Prop := fnExactSidesOfPartsRow.holds Tryz.pinned (OpenSpec.ofChange fnExactSidesOfPartsSpec)

/-- ITS FALSE NEIGHBOUR: 'it returns false'. Refute it at one input. -/
def fnExactSidesOfPartsWrong : ChangeSpec := { name := "fnExactSidesOfParts", fn := fun _ => fun
  | [d1, d2] => { results := [.lit (.bool false)], args := [d1, d2] }
  | _ => none }
def FnExactSidesOfPartsWrongFalsely : Prop := fnExactSidesOfPartsRow.holds Tryz.pinned (OpenSpec.ofChange fnExactSidesOfPartsWrong)

/-- 'laws.FnExactCrossedLeaps': WHATEVER THE INPUT: true; the input reads as it did. -/
def fnExactCrossedLeapsSpec : ChangeSpec := { name := "fnExactCrossedLeaps", fn := fun _ => fun
  | [d1, d2, d3, d4] => { results := [.lit (.bool true)], args := [d1, d2, d3, d4] }
  | _ => none }
def fnExactCrossedLeapsRow : OpenClaim := { program := "ytbpgkigoboobeaagreat", sum := "fd423ffac9e59be60046a3e073b429a377758f274c10c797f46892e19f038e6a", func := "loop.example/g01239/laws.FnExactCrossedLeaps", spec := "fnExactCrossedLeaps", unfollowed := true, recurses := true, apart := false }
def FnExactCrossedLeapsSaid : Prop := fnExactCrossedLeapsRow.holds Tryz.pinned (OpenSpec.ofChange fnExactCrossedLeapsSpec)

/-- ITS FALSE NEIGHBOUR: 'it returns false'. Refute it at one input. -/
def fnExactCrossedLeapsWrong : ChangeSpec := { name := "fnExactCrossedLeaps", fn := fun _ => fun
  | [d1, d2, d3, d4] => { results := [.lit (.bool false)], args := [d1, d2, d3, d4] }
  | _ => none }
def FnExactCrossedLeapsWrongFalsely : Prop := fnExactCrossedLeapsRow.holds Tryz.pinned (OpenSpec.ofChange fnExactCrossedLeapsWrong)

/-- 'laws.FnExactMostApart': WHATEVER THE INPUT: true; the input reads as it did. -/
def fnExactMostApartSpec : ChangeSpec := { name := "fnExactMostApart", fn := fun _ => fun
  | [d1, d2] => { results := [.lit (.bool true)], args := [d1, d2] }
  | _ => none }
def fnExactMostApartRow : OpenClaim := { program := "ytbpgkigoboobeaagreat", sum := "fd423ffac9e59be60046a3e073b429a377758f274c10c797f46892e19f038e6a", func := "loop.example/g01239/laws.FnExactMostApart", spec := "fnExactMostApart", unfollowed := true, recurses := true, apart := false }
def FnExactMostApartSaid : Prop := fnExactMostApartRow.holds Tryz.pinned (OpenSpec.ofChange fnExactMostApartSpec)

/-- ITS FALSE NEIGHBOUR: 'it returns false'. Refute it at one input. -/
def fnExactMostApartWrong : ChangeSpec := { name := "fnExactMostApart", fn := fun _ => fun
  | [d1, d2] => { results := [.lit (.bool false)], args := [d1, d2] }
  | _ => none }
def FnExactMostApartWrongFalsely : Prop := fnExactMostApartRow.holds Tryz.pinned (OpenSpec.ofChange fnExactMostApartWrong)

/- THE SECOND FORM. 'bulk': how many values and letters a reading holds, each counted each time it is reached (what is shared counts as often as it is met; a slice's spare places count too). A statement '..UptoSaid' is the law's where the arguments, and the package variables that the reading takes, are together of bulk at most 1048576: NARROWER than '..Said'. Prove '..Said' where nothing that the law and all that it calls make is longer than what came in: it says more and counts as full. Else prove '..UptoSaid'. A law counts once. -/
mutual
def uptoBulk {H : Type} : DataW H → Nat
  | .lit (.string bytes) => bytes.length + 1
  | .lit _ => 1
  | .nil => 1
  | .ptr d => uptoBulk d + 1
  | .slice elems spare => uptoBulkAll elems + uptoBulkAll spare + 1
  | .agg parts => uptoBulkAll parts + 1
  | .iface _ d => uptoBulk d + 1
  | .map entries => uptoBulkEntries entries + 1
  | .held _ => 1
def uptoBulkAll {H : Type} : List (DataW H) → Nat
  | [] => 0
  | d :: r => uptoBulk d + uptoBulkAll r
def uptoBulkEntries {H : Type} : List (Lit × DataW H) → Nat
  | [] => 0
  | x :: r => uptoBulkEntry x + uptoBulkEntries r
def uptoBulkEntry {H : Type} : Lit × DataW H → Nat
  | (.string bytes, d) => bytes.length + uptoBulk d + 1
  | (_, d) => uptoBulk d + 1
 end
def uptoSmall : (H : Type) → List (DataW H) → Bool := fun _ ds => decide (uptoBulkAll ds ≤ 1048576)
def OpenSpec.upto (s : _root_.Go.ChangeSpec) : _root_.Go.OpenSpec := { _root_.Go.OpenSpec.ofChange s with cond := some uptoSmall }

/-- 'laws.FnExactSidesOfParts', WHERE WHAT IT READS IS OF BULK AT MOST 1048576: true; the input reads as it did. -/
def fnExactSidesOfPartsUptoRow : OpenClaim := { program := "ytbpgkigoboobeaagreat", sum := "fd423ffac9e59be60046a3e073b429a377758f274c10c797f46892e19f038e6a", func := "loop.example/g01239/laws.FnExactSidesOfParts", spec := "fnExactSidesOfParts", unfollowed := true, recurses := true, apart := false, narrowed := true }
def FnExactSidesOfPartsUptoSaid : Prop := fnExactSidesOfPartsUptoRow.holds Tryz.pinned (OpenSpec.upto fnExactSidesOfPartsSpec)

/-- 'laws.FnExactCrossedLeaps', WHERE WHAT IT READS IS OF BULK AT MOST 1048576: true; the input reads as it did. -/
def fnExactCrossedLeapsUptoRow : OpenClaim := { program := "ytbpgkigoboobeaagreat", sum := "fd423ffac9e59be60046a3e073b429a377758f274c10c797f46892e19f038e6a", func := "loop.example/g01239/laws.FnExactCrossedLeaps", spec := "fnExactCrossedLeaps", unfollowed := true, recurses := true, apart := false, narrowed := true }
def FnExactCrossedLeapsUptoSaid : Prop := fnExactCrossedLeapsUptoRow.holds Tryz.pinned (OpenSpec.upto fnExactCrossedLeapsSpec)

/-- 'laws.FnExactMostApart', WHERE WHAT IT READS IS OF BULK AT MOST 1048576: true; the input reads as it did. -/
def fnExactMostApartUptoRow : OpenClaim := { program := "ytbpgkigoboobeaagreat", sum := "fd423ffac9e59be60046a3e073b429a377758f274c10c797f46892e19f038e6a", func := "loop.example/g01239/laws.FnExactMostApart", spec := "fnExactMostApart", unfollowed := true, recurses := true, apart := false, narrowed := true }
def FnExactMostApartUptoSaid : Prop := fnExactMostApartUptoRow.holds Tryz.pinned (OpenSpec.upto fnExactMostApartSpec)

end Rows
end Go.Proofs.YtbpgkigoboobeaaGreat
