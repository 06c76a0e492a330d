/- A record in a block (written by gen/recis.py). -/
import Derived.Test.YtpflbhcgkndpcaaGreatDoorG16u
import Derived.Test.YtpflbhcgkndpcaaGreatDoorBut
set_option linter.unusedSimpArgs false
set_option linter.unusedVariables false
namespace Go.Proofs.YtpflbhcgkndpcaaGreatDoor
open Go.RowKit

abbrev recV (o s : Int) (key : ByteArray) (ml ct vo : Int) (A : Option Addr) (n c : Nat) (gone : Bool) (tt : Int) : Value := .agg #[.int .i64 o, .int .i64 s, .string key, .int .i64 ml, .int .i64 ct, .int .i64 vo, .slice A n c, .bool gone, .int .i64 tt]
abbrev recO (o s : Int) (key : ByteArray) (ml ct vo : Int) (A : Option Addr) (n c : Nat) (gone : Bool) (tt : Int) : Obj := .cells #[.int .i64 o, .int .i64 s, .string key, .int .i64 ml, .int .i64 ct, .int .i64 vo, .slice A n c, .bool gone, .int .i64 tt] 46
def okN (o s : Int) (kn : Nat) (ml ct vo : Int) (n : Nat) (gone : Bool) (tt : Int) : Bool := okV ml ct vo n gone tt && (decide (vo = o) && (decide (1 ≤ s) && (decide (s ≤ 1099511627776) && (decide (1 ≤ kn) && decide (kn ≤ 64)))))
theorem okR_n (r : Rc) : okR r = okN r.o r.s r.key.length r.ml r.ct r.vo r.val.length r.gone r.tt := rfl
/-- A record in a block. -/
structure Rec9 (W : World) (B : Nat) (o s : Int) (key : ByteArray) (ml ct vo : Int) (A : Option Addr) (n c : Nat) (gone : Bool) (tt : Int) : Prop where
  c0 : W.cell? ⟨B, 0, none⟩ = some (.int .i64 o)
  c1 : W.cell? ⟨B, 1, none⟩ = some (.int .i64 s)
  c2 : W.cell? ⟨B, 2, none⟩ = some (.string key)
  c3 : W.cell? ⟨B, 3, none⟩ = some (.int .i64 ml)
  c4 : W.cell? ⟨B, 4, none⟩ = some (.int .i64 ct)
  c5 : W.cell? ⟨B, 5, none⟩ = some (.int .i64 vo)
  c6 : W.cell? ⟨B, 6, none⟩ = some (.slice A n c)
  c7 : W.cell? ⟨B, 7, none⟩ = some (.bool gone)
  c8 : W.cell? ⟨B, 8, none⟩ = some (.int .i64 tt)
  lt : B < W.heap.size
section
variable {W W' : World} {B : Nat} {o s : Int} {key : ByteArray} {ml ct vo : Int} {A : Option Addr} {n c : Nat} {gone : Bool} {tt : Int}
theorem Rec9.but {S : Nat → Prop} (h : Rec9 W B o s key ml ct vo A n c gone tt) (k : But S W W') (hs : ¬ S B) : Rec9 W' B o s key ml ct vo A n c gone tt :=
  ⟨(k.cell B 0 h.lt hs).trans h.c0, (k.cell B 1 h.lt hs).trans h.c1, (k.cell B 2 h.lt hs).trans h.c2, (k.cell B 3 h.lt hs).trans h.c3, (k.cell B 4 h.lt hs).trans h.c4, (k.cell B 5 h.lt hs).trans h.c5, (k.cell B 6 h.lt hs).trans h.c6, (k.cell B 7 h.lt hs).trans h.c7, (k.cell B 8 h.lt hs).trans h.c8, Nat.lt_of_lt_of_le h.lt k.size⟩
theorem Rec9.below (h : Rec9 W B o s key ml ct vo A n c gone tt) (k : Below W.heap.size W W') : Rec9 W' B o s key ml ct vo A n c gone tt := h.but (S := fun _ => False) (But.of_below k) (fun hf => hf)
theorem Rec9.new (W : World) (o s : Int) (key : ByteArray) (ml ct vo : Int) (A : Option Addr) (n c : Nat) (gone : Bool) (tt : Int) : Rec9 (W.alloc (recO o s key ml ct vo A n c gone tt)) W.heap.size o s key ml ct vo A n c gone tt := by constructor <;> simp
end
end Go.Proofs.YtpflbhcgkndpcaaGreatDoor
