/- Stage 25: slices.Insert of one row of bytes in a list that holds none. -/
import Derived.Test.YtdjhpajmbddffaaOctLow
import Derived.Test.YtdjhpajmbddffaaBut
import Derived.Deep.AppendLies
set_option linter.unusedSimpArgs false
set_option linter.unusedVariables false
namespace Go.Proofs.Ytdjhpajmbddffaa
open Go.RowKit

theorem rb_info : (Try.prog.info? 33).map (fun i => (i.zero, i.size, i.bytes)) = some (some (.slice none 0 0), 1, 24) := by kernel_rfl
/-- The list of one row of bytes that a call made. -/
structure R1 (n0 : Nat) (w : World) (g : Nat) (v : Value) : Prop where
  c0 : w.cell? ⟨g, 0, none⟩ = some v
  lo : n0 ≤ g
  lt : g < w.heap.size
set_option maxHeartbeats 2000000 in
theorem ins_one (b cap : Nat) (A : Option Addr) (n c : Nat) (w : World) (h : w.cell? ⟨b, 0, none⟩ = some (.slice A n c)) :
    Calls Try.prog 50 #[.slice none 0 0, .int .i64 0, .slice (some ⟨b, 0, none⟩) 1 cap] w fun e w' => (∃ g cap', e = .returned (.slice (some ⟨g, 0, none⟩) 1 cap') ∧ R1 w.heap.size w' g (.slice A n c)) ∧ Below w.heap.size w w' := by
  obtain ⟨i0, hi0, hz0, hz1, hz2⟩ := info_parts rb_info
  have hrow : w.ownsRow w.heap.size 33 1 (.slice none 0 0) 0 [] := World.ownsRow_nil _ _ _ _
  have HNEW : ∀ j u, [Value.slice A n c][j]? = some u → w.cell? ((⟨b, 0, none⟩ : Addr).add j) = some u := by
    intro j u hu
    rcases j with _ | j
    · cases hu; exact h
    · cases hu
  have HN := Lib.hid HNEW
  clear HNEW h
  go_enter Try.func50, Try.ntmps50
  go_wp2_with (at_builtin; refine wpList_append_lies _ rfl (.tmp 23) (.tmp 24) _ rfl w.heap.size 33 i0 _ 1 24 Try.underlying93 hi0 hz0 hz1 hz2 rfl (by decide) (.slice none 0 0) 0 _ rfl hrow ⟨b, 0, none⟩ 1 _ [.slice A n c] rfl rfl HN.out (by simp [Value.oneCell']) (by omega) (by unfold maxLen; omega) (by omega) (by omega) _ rfl ?_; intro g2 cap2 W5 hown2 hg2 hat2 hlt2)
  have HB5 := Lib.hid ((Below.refl w.heap.size w).grown hg2 (by omega) (fun k hk => by simp [Value.ownBlock] at hk))
  have hlo2 := World.ownsRow.lt hown2 g2 rfl
  have HC : R1 w.heap.size W5 g2 (.slice A n c) := ⟨row_cell hown2 rfl, hlo2.1, hlo2.2⟩
  clear hown2 hg2 hat2 hlt2 hrow hlo2
  go_ret
  exact ⟨⟨g2, cap2, rfl, HC⟩, HB5.out⟩
end Go.Proofs.Ytdjhpajmbddffaa
