import Derived.Test.YtadihhngegimkaaGreatDoorOne2
namespace Go.Proofs.YtadihhngegimkaaGreatDoor
open Go.RowKit
set_option linter.unusedVariables false
theorem dsz_le (t : List UInt8) (m : Int) (q : Bool) (h : t.length ≤ 524288) : LM.dsize ⟨t, m, q⟩ ≤ 524293 := by
  cases q
  · show LM.thead t.length + t.length ≤ _; unfold LM.thead; (repeat' split) <;> omega
  · show LM.nsize m ≤ _; unfold LM.nsize; (repeat' split) <;> omega
theorem one_any (b : ByteArray) (c : Int) (e : LM.Ent) (hs : b.size ≤ 1073741824) (ha : e.begin < b.size) (hrd : LM.rdItem (b.data.toList.drop e.begin) = some (e.it, e.span)) (w : World) (hw : Lay w) :
    Calls Tryz.prog 39 #[.agg #[.string b, .int .i64 c], encE e.it e.begin e.span] w (oneP b w e.it.txt e.it.num e.it.isN e.begin e.span) := by
  obtain ⟨p, ⟨t, m, q⟩, a, n⟩ := e
  simp only at ha hrd ⊢
  have hk := LM.rd_kind hrd
  have hsp := LM.rd_span hrd
  rw [List.length_drop, list_len] at hk hsp
  have hS : ∀ W, Wid W → Calls Tryz.prog 64 #[.agg #[.string (strB t), .int .i64 m, .bool q]] W fun e w' => e = .returned (.int .i64 (LM.dsize ⟨t, m, q⟩ : Nat)) ∧ Below W.heap.size W w' := fun W hW => size_any ⟨t, m, q⟩ _ hk (by omega) W hW
  have ht : t.length ≤ 1073741824 := by
    rcases hk with ⟨_, h2, _⟩ | ⟨_, _, h2⟩
    · simp only at h2; rw [h2]; simp
    · simp only at h2; omega
  by_cases hD : LM.dsize ⟨t, m, q⟩ = n ∧ t.length ≤ 524288
  · obtain ⟨h1, h2⟩ := hD
    rw [h1] at hS
    refine one_ok b c t m q a n n rfl hs (by omega) hsp.1 ?_ h2 hS ?_ w hw
    · rw [← h1]; exact dsz_le t m q h2
    · constructor
      · intro h; exact ⟨h.2.1, h.2.2⟩
      · intro h; exact ⟨⟨h1, h2⟩, h.1, h.2⟩
  · refine one_bad1 b c t m q a n (LM.dsize ⟨t, m, q⟩ : Nat) (n : Int) hs ha ht hS (fun h => hD h.1) ?_ w hw
    rintro ⟨h1, h2⟩
    exact hD ⟨by omega, h2⟩
end Go.Proofs.YtadihhngegimkaaGreatDoor
