/- Stage 25: an event's step and answer as ranges of cells; new blocks as ranges. -/
import Derived.Test.YtdjhpajmbddffaaCz25
import Derived.Test.YtdjhpajmbddffaaMw25
set_option linter.unusedSimpArgs false
set_option linter.unusedVariables false
namespace Go.Proofs.Ytdjhpajmbddffaa
open Go.RowKit

def Ev.st (e : Ev) : List Value := [.int .i64 e.kd, .int .i64 e.nd, .int .i64 e.n, .int .i64 e.m, .int .u8 e.by_, .int .i64 e.sm, .int .i64 e.sc, .string e.key, .string e.hi, .slice e.A e.vl e.vc]
def Ev.an_ (e : Ev) : List Value := [.int .i64 e.er, .int .i64 e.an, .int .i64 e.tm, .int .i64 e.tc, .bool e.fd, .slice e.B e.bl e.bc, .slice e.P e.pl e.pc]
theorem Ev.st_eq (e : Ev) : e.st = (e.cs.drop 1).take 10 := rfl
theorem Ev.an_eq (e : Ev) : e.an_ = (e.cs.drop 11).take 7 := rfl
theorem range_part {w : World} {b : Nat} {cs : List Value} (h : w.rangeAt b 0 cs) (o n : Nat) : w.rangeAt b o ((cs.drop o).take n) := fun j u hu => by
  rw [List.getElem?_take] at hu
  split at hu
  · rw [List.getElem?_drop] at hu
    have := h (o + j) u hu
    rwa [Nat.zero_add] at this
  · cases hu
theorem range_below {w w' : World} {b o : Nat} {cs : List Value} (h : w.rangeAt b o cs) (k : Below w.heap.size w w') (hb : b < w.heap.size) : w'.rangeAt b o cs := fun j u hu => (k.cell (p := ⟨b, o + j, none⟩) hb).trans (h j u hu)
theorem there_below {w w' : World} {b o n : Nat} (h : w.there b o n) (k : Below w.heap.size w w') (hb : b < w.heap.size) : w'.there b o n := fun j hj =>
  ⟨by rw [k.cell (p := ⟨b, o + j, none⟩) hb]; exact (h j hj).1, by rw [k.frozen (p := ⟨b, o + j, none⟩) hb]; exact (h j hj).2⟩
theorem range_new (w : World) (C : List Value) (t : TypeId) : (w.alloc (.cells C.toArray t)).rangeAt w.heap.size 0 C := fun j u hu => by
  have hj : j < C.length := (List.getElem?_eq_some_iff.1 hu).1
  have : C[j] = u := (List.getElem?_eq_some_iff.1 hu).2
  simp [hj, this]
theorem there_new (w : World) (C : Array Value) (t : TypeId) : (w.alloc (.cells C t)).there w.heap.size 0 C.size := fun j hj => by
  constructor
  · simp [hj]
  · simp
theorem below_setCells (B b : Nat) (hb : B ≤ b) (w : World) : ∀ (vs : List Value) (o : Nat) (w' : World), Below B w w' → Below B w (w'.setCells b o vs)
  | [], _, _, h => h
  | v :: r, o, w', h => by
    rw [World.setCells]
    exact below_setCells B b hb w r (o + 1) _ (h.setCell (p := ⟨b, o, none⟩) hb v)
theorem setCells_size (b : Nat) : ∀ (vs : List Value) (o : Nat) (w : World), (w.setCells b o vs).heap.size = w.heap.size
  | [], _, _ => rfl
  | v :: r, o, w => by
    rw [World.setCells, setCells_size b r (o + 1)]
    simp [World.setCell]
theorem st_info : (Try.prog.info? 41).map (·.size) = some 10 := by kernel_rfl
theorem an_info : (Try.prog.info? 45).map (·.size) = some 7 := by kernel_rfl
theorem Ev.st_one (e : Ev) : e.st.toArray.all (·.oneCell') = true := by simp [Ev.st, Value.oneCell']
theorem Ev.an_one (e : Ev) : e.an_.toArray.all (·.oneCell') = true := by simp [Ev.an_, Value.oneCell']
end Go.Proofs.Ytdjhpajmbddffaa
