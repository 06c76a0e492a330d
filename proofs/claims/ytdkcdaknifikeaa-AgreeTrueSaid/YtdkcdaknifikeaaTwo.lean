/- Two rows of ints that the call owns. -/
import Derived.Test.YtdkcdaknifikeaaInts2
import Derived.Test.YtdkcdaknifikeaaCells
import Derived.Deep.AppendLies
import Derived.Laws.OwnMore
import Derived.Sort.OwnSortedInts
set_option linter.unusedSimpArgs false
set_option linter.unusedVariables false
namespace Go.Proofs.Ytdkcdaknifikeaa
open Go.RowKit

theorem int_info : (Try.prog.info? 3).map (fun i => (i.zero, i.size, i.bytes)) = some (some (.int .i64 0), 1, 8) := by kernel_rfl
/-- Two rows, of blocks of their own. -/
structure Two (base : Nat) (W : World) (v u : Value) (xs ys : List Int) : Prop where
  a : W.ownsRow base 3 1 v xs.length (xs.map (Value.int .i64))
  b : W.ownsRow base 3 1 u ys.length (ys.map (Value.int .i64))
  ne : ∀ k, v.ownBlock = some k → u.ownBlock ≠ some k
theorem Two.swap {base : Nat} {W : World} {v u : Value} {xs ys : List Int} (h : Two base W v u xs ys) : Two base W u v ys xs := ⟨h.b, h.a, fun k hk he => h.ne k he hk⟩
theorem Two.start (base : Nat) (W : World) : Two base W (.slice none 0 0) (.slice none 0 0) [] [] := ⟨World.ownsRow_nil _ _ _ _, World.ownsRow_nil _ _ _ _, fun k hk => by simp [Value.ownBlock] at hk⟩
theorem Two.alloc {base : Nat} {W : World} {v u : Value} {xs ys : List Int} (h : Two base W v u xs ys) (o : Obj) : Two base (W.alloc o) v u xs ys := ⟨h.a.alloc o, h.b.alloc o, h.ne⟩
theorem Two.drewN {base : Nat} {W : World} {v u : Value} {xs ys : List Int} (h : Two base W v u xs ys) (n : Nat) : Two base (W.drewN n) v u xs ys := ⟨h.a, h.b, h.ne⟩
theorem Two.drew {base : Nat} {W : World} {v u : Value} {xs ys : List Int} (h : Two base W v u xs ys) : Two base W.drew v u xs ys := ⟨h.a, h.b, h.ne⟩
theorem Two.growA {base g cap : Nat} {W W' : World} {v u : Value} {xs ys : List Int} {x : Int} (h : Two base W v u xs ys)
    (hown : W'.ownsRow base 3 1 (.slice (some ⟨g, 0, none⟩) (xs.length + 1) cap) (xs.length + 1) (xs.map (Value.int .i64) ++ [.int .i64 x]))
    (hg : W.grownBy W' v.ownBlock) (hat : v.ownBlock = some g ∨ g = W.heap.size) : Two base W' (.slice (some ⟨g, 0, none⟩) (xs.length + 1) cap) u (xs ++ [x]) ys := by
  refine ⟨by simpa using hown, h.b.kept hg ?_, fun k hk he => ?_⟩
  · cases hu : u.ownBlock with
    | none => exact .inl rfl
    | some k => exact .inr fun e => h.ne k e.symm hu
  · have : g = k := by simpa [Value.ownBlock] using hk
    subst this
    rcases hat with q | q
    · exact h.ne g q he
    · have := (h.b.lt g he).2
      omega
theorem Two.growB {base g cap : Nat} {W W' : World} {v u : Value} {xs ys : List Int} {x : Int} (h : Two base W v u xs ys)
    (hown : W'.ownsRow base 3 1 (.slice (some ⟨g, 0, none⟩) (ys.length + 1) cap) (ys.length + 1) (ys.map (Value.int .i64) ++ [.int .i64 x]))
    (hg : W.grownBy W' u.ownBlock) (hat : u.ownBlock = some g ∨ g = W.heap.size) : Two base W' v (.slice (some ⟨g, 0, none⟩) (ys.length + 1) cap) xs (ys ++ [x]) := (h.swap.growA hown hg hat).swap
/-- Two ints at a block that is no row's. -/
theorem Ints2.grown {W W' : World} {b : Nat} {x y : Int} {row : Option Nat} (h : Ints2 W b x y) (hg : W.grownBy W' row) (hn : some b ≠ row) : Ints2 W' b x y := by
  have hb := hg.block b h.lt hn
  exact ⟨(World.cell?_of_block (a := ⟨b, 0, none⟩) hb).trans h.c0, (World.cell?_of_block (a := ⟨b, 1, none⟩) hb).trans h.c1, (World.frozen?_of_block (a := ⟨b, 0, none⟩) hb).trans h.f0, (World.frozen?_of_block (a := ⟨b, 1, none⟩) hb).trans h.f1, Nat.lt_of_lt_of_le h.lt hg.size⟩
theorem Two.kept {base : Nat} {W W' : World} {v u : Value} {xs ys : List Int} {row : Option Nat} (h : Two base W v u xs ys) (hg : W.grownBy W' row) (h1 : v.ownBlock = none ∨ v.ownBlock ≠ row) (h2 : u.ownBlock = none ∨ u.ownBlock ≠ row) : Two base W' v u xs ys := ⟨h.a.kept hg h1, h.b.kept hg h2, h.ne⟩
/-- A cell of a block of its own that is no row's. -/
structure Pend (W : World) (v u : Value) (b : Nat) (x : Int) : Prop where
  c : W.cell? ⟨b, 0, none⟩ = some (.int .i64 x)
  lt : b < W.heap.size
  nv : v.ownBlock ≠ some b
  nu : u.ownBlock ≠ some b
theorem Pend.alloc {W : World} {v u : Value} {b : Nat} {x : Int} (h : Pend W v u b x) (o : Obj) : Pend (W.alloc o) v u b x :=
  ⟨(World.cell?_alloc_past o b 0 h.lt).trans h.c, by have := h.lt; simp; omega, h.nv, h.nu⟩
theorem Pend.new {base : Nat} {W : World} {v u : Value} {xs ys : List Int} (h : Two base W v u xs ys) (x : Int) (t : TypeId) : Pend (W.alloc (.cells #[.int .i64 x] t)) v u W.heap.size x :=
  ⟨by simp, by simp, fun e => by have := (h.a.lt _ e).2; omega, fun e => by have := (h.b.lt _ e).2; omega⟩
theorem Pend.grown {W W' : World} {v u : Value} {b : Nat} {x : Int} (h : Pend W v u b x) {row : Option Nat} (hg : W.grownBy W' row) (hn : row ≠ some b) {v' u' : Value} (nv : v'.ownBlock ≠ some b) (nu : u'.ownBlock ≠ some b) : Pend W' v' u' b x :=
  ⟨(World.cell?_of_block (a := ⟨b, 0, none⟩) (hg.block b h.lt (fun e => hn e.symm))).trans h.c, Nat.lt_of_lt_of_le h.lt hg.size, nv, nu⟩
theorem Pend.appA {W W' : World} {v u : Value} {b g cap n : Nat} {x : Int} (h : Pend W v u b x) (hg : W.grownBy W' v.ownBlock) (hat : v.ownBlock = some g ∨ g = W.heap.size) : Pend W' (.slice (some ⟨g, 0, none⟩) n cap) u b x :=
  h.grown hg h.nv (fun e => by
    have e : g = b := by simpa [Value.ownBlock] using e
    rcases hat with q | q
    · exact h.nv (by rw [q, e])
    · have := h.lt; omega) h.nu
theorem Pend.appB {W W' : World} {v u : Value} {b g cap n : Nat} {x : Int} (h : Pend W v u b x) (hg : W.grownBy W' u.ownBlock) (hat : u.ownBlock = some g ∨ g = W.heap.size) : Pend W' v (.slice (some ⟨g, 0, none⟩) n cap) b x :=
  h.grown hg h.nu h.nv (fun e => by
    have e : g = b := by simpa [Value.ownBlock] using e
    rcases hat with q | q
    · exact h.nu (by rw [q, e])
    · have := h.lt; omega)
theorem Pend.news {W : World} {v u : Value} {b : Nat} {x : Int} (h : Pend W v u b x) : ∀ j y, ([.int .i64 x] : List Value)[j]? = some y → W.cell? ((⟨b, 0, none⟩ : Addr).add j) = some y := by
  intro j y hj
  cases j with
  | zero => simp at hj; subst hj; exact h.c
  | succ j => simp at hj
/-- Two rows and a pair beside them, while a call runs that began at w. -/
structure St (bx : Nat) (w W : World) (v u : Value) (xs ys : List Int) (lo hi : Int) : Prop where
  two : Two (w.heap.size + 1) W v u xs ys
  box : Ints2 W bx lo hi
  hb : Below w.heap.size w W
  lt : w.heap.size < W.heap.size
  nv : v.ownBlock ≠ some bx
  nu : u.ownBlock ≠ some bx
  out : Ints2 W w.heap.size 0 0
theorem St.held {bx : Nat} {w W : World} {v u : Value} {xs ys : List Int} {lo hi : Int} (h : St bx w W v u xs ys lo hi) : W.cell? ⟨bx, 0, none⟩ = some (.int .i64 lo) ∧ W.cell? ⟨bx, 1, none⟩ = some (.int .i64 hi) := ⟨h.box.c0, h.box.c1⟩
theorem St.drew {bx : Nat} {w W : World} {v u : Value} {xs ys : List Int} {lo hi : Int} (h : St bx w W v u xs ys lo hi) : St bx w W.drew v u xs ys lo hi := ⟨h.two.drew, h.box.drew, h.hb.drew, h.lt, h.nv, h.nu, h.out.drew⟩
theorem St.alloc {bx : Nat} {w W : World} {v u : Value} {xs ys : List Int} {lo hi : Int} (h : St bx w W v u xs ys lo hi) (o : Obj) : St bx w (W.alloc o) v u xs ys lo hi := ⟨h.two.alloc o, h.box.alloc o, h.hb.alloc h.hb.size o, by have := h.lt; simp; omega, h.nv, h.nu, h.out.alloc o⟩
theorem St.appA {bx g cap : Nat} {w W W' : World} {v u : Value} {xs ys : List Int} {lo hi x : Int} (h : St bx w W v u xs ys lo hi)
    (hown : W'.ownsRow (w.heap.size + 1) 3 1 (.slice (some ⟨g, 0, none⟩) (xs.length + 1) cap) (xs.length + 1) (xs.map (Value.int .i64) ++ [.int .i64 x]))
    (hg : W.grownBy W' v.ownBlock) (hat : v.ownBlock = some g ∨ g = W.heap.size) : St bx w W' (.slice (some ⟨g, 0, none⟩) (xs.length + 1) cap) u (xs ++ [x]) ys lo hi :=
  ⟨h.two.growA hown hg hat, h.box.grown hg (fun e => h.nv e.symm), h.hb.grown hg h.hb.size (fun k hk => by have := (h.two.a.lt k hk).1; omega), Nat.lt_of_lt_of_le h.lt hg.size, fun e => by
    have e : g = bx := by simpa [Value.ownBlock] using e
    rcases hat with q | q
    · exact h.nv (by rw [q, e])
    · have := h.box.lt; omega, h.nu, h.out.grown hg (fun e => by have := (h.two.a.lt _ e.symm).1; omega)⟩
theorem St.appB {bx g cap : Nat} {w W W' : World} {v u : Value} {xs ys : List Int} {lo hi x : Int} (h : St bx w W v u xs ys lo hi)
    (hown : W'.ownsRow (w.heap.size + 1) 3 1 (.slice (some ⟨g, 0, none⟩) (ys.length + 1) cap) (ys.length + 1) (ys.map (Value.int .i64) ++ [.int .i64 x]))
    (hg : W.grownBy W' u.ownBlock) (hat : u.ownBlock = some g ∨ g = W.heap.size) : St bx w W' v (.slice (some ⟨g, 0, none⟩) (ys.length + 1) cap) xs (ys ++ [x]) lo hi :=
  ⟨h.two.growB hown hg hat, h.box.grown hg (fun e => h.nu e.symm), h.hb.grown hg h.hb.size (fun k hk => by have := (h.two.b.lt k hk).1; omega), Nat.lt_of_lt_of_le h.lt hg.size, h.nv, fun e => by
    have e : g = bx := by simpa [Value.ownBlock] using e
    rcases hat with q | q
    · exact h.nu (by rw [q, e])
    · have := h.box.lt; omega, h.out.grown hg (fun e => by have := (h.two.b.lt _ e.symm).1; omega)⟩
end Go.Proofs.Ytdkcdaknifikeaa
