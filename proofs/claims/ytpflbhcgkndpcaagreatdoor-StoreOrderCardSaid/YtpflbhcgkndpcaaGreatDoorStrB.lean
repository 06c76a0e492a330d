/- Bytes as a text; whether two versions are one (the reference). -/
import Derived.Test.YtpflbhcgkndpcaaGreatDoorOctMem
import Derived.Lib.Bytes
import Derived.Lib.BufferRead
import Derived.Laws.IdiomStrings
set_option linter.unusedSimpArgs false
set_option linter.unusedVariables false
namespace Go.Proofs.YtpflbhcgkndpcaaGreatDoor
open Go.RowKit

def kL (key : ByteArray) : List Int := key.data.toList.map fun b => (b.toNat : Int)
theorem kL_len (key : ByteArray) : (kL key).length = key.size := by simp [kL]
theorem kL_by (key : ByteArray) : isBy (kL key) := by
  intro x hx
  simp [kL] at hx
  obtain ⟨b, _, rfl⟩ := hx
  have := b.toNat_lt
  omega
/-- Bytes as a text. -/
def strB (l : List Int) : ByteArray := ⟨(Lib.bytesOf l).toArray⟩
theorem kL_str {l : List Int} (h : isBy l) : kL (strB l) = l := by
  unfold kL strB Lib.bytesOf
  simp only [List.map_map]
  conv => rhs; rw [← List.map_id l]
  apply List.map_congr_left
  intro x hx
  have := h x hx
  simp
  omega
theorem str_kL (k : ByteArray) : strB (kL k) = k := by
  unfold strB kL Lib.bytesOf
  obtain ⟨⟨l⟩⟩ := k
  simp only [List.map_map]
  congr 2
  conv => rhs; rw [← List.map_id l]
  apply List.map_congr_left
  intro x _
  simp
theorem strB_inj {a b : List Int} (ha : isBy a) (hb : isBy b) : strB a = strB b ↔ a = b := ⟨fun h => by rw [← kL_str ha, ← kL_str hb, h], fun h => by rw [h]⟩
theorem strB_size (l : List Int) : (strB l).size = l.length := by simp [strB, Lib.bytesOf, ByteArray.size]
theorem str_beq (a b : ByteArray) : (a == b) = decide (a = b) := by
  obtain ⟨x⟩ := a
  obtain ⟨y⟩ := b
  show (x == y) = decide ((⟨x⟩ : ByteArray) = ⟨y⟩)
  rw [Bool.eq_iff_iff, beq_iff_eq, decide_eq_true_eq, ByteArray.mk.injEq]
theorem strB_beq {a b : List Int} (ha : isBy a) (hb : isBy b) : (strB a == strB b) = decide (a = b) := by
  rw [str_beq, Bool.eq_iff_iff, decide_eq_true_eq, decide_eq_true_eq, strB_inj ha hb]
theorem str_lists (a b : ByteArray) : a.toList = b.toList ↔ a = b := by
  rw [ByteArray.toList_eq, ByteArray.toList_eq]
  obtain ⟨⟨x⟩⟩ := a
  obtain ⟨⟨y⟩⟩ := b
  simp
theorem strB_lists {a b : List Int} (ha : isBy a) (hb : isBy b) : (strB a).toList = (strB b).toList ↔ a = b := by rw [str_lists, strB_inj ha hb]
theorem run_str (w : World) (A : Option Addr) (p : List Int) (c : Nat) (hp : ByL w A p) (hb : isBy p) (hn : A = none → p.length = 0) : (convert 42 9 (.slice A p.length c)).run Tryz.prog w = .ok (.string (strB p)) w := by
  cases A with
  | none =>
    obtain rfl : p = [] := List.length_eq_zero_iff.1 (hn rfl)
    exact Lib.run_convert_nil_bytes w _ _ 5 c Tryz.underlying42 Tryz.underlying5 Tryz.underlying9
  | some ad =>
    have h := run_convert_bytes_back (P := Tryz.prog) w 42 9 5 ad c (Lib.bytesOf p) Tryz.underlying42 Tryz.underlying5 Tryz.underlying9 (by
      intro j hj
      have hj' : j < p.length := by simpa [Lib.bytesOf] using hj
      have h1 := hp.cells j _ (bC_at p j hj')
      rw [h1]
      have h2 := hb p[j] (List.getElem_mem hj')
      simp [Lib.bytesOf]
      omega)
    rw [Lib.bytesOf_length] at h
    exact h
end Go.Proofs.YtpflbhcgkndpcaaGreatDoor
