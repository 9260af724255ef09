import Derived.Test.YtadihhngegimkaaGreatDoorLMath
set_option linter.unusedVariables false
namespace Go.Proofs.YtadihhngegimkaaGreatDoor.LM
open Go.Proofs.Vi
/-! what is read, in its one form, is what is written. -/
theorem txtAt_some {s : List UInt8} {h L : Nat} {it : Item} {n : Nat} (e : txtAt s h L = some (it, n)) : h + L ≤ s.length ∧ it = txtI ((s.drop h).take L) ∧ n = h + L := by
  unfold txtAt at e; split at e
  · rename_i hc
    have := Option.some.inj e
    exact ⟨hc, (congrArg Prod.fst this).symm, (congrArg Prod.snd this).symm⟩
  · cases e
theorem numAt_some {s : List UInt8} {k : Nat} {it : Item} {n : Nat} (e : numAt s k = some (it, n)) : 1 + k ≤ s.length ∧ it = numI (sg k (leN ((s.drop 1).take k))) ∧ n = 1 + k := by
  unfold numAt at e; split at e
  · rename_i hc
    have := Option.some.inj e
    exact ⟨hc, (congrArg Prod.fst this).symm, (congrArg Prod.snd this).symm⟩
  · cases e
theorem take_cons1 (b : UInt8) (t : List UInt8) (k : Nat) : (b :: t).take (1 + k) = b :: t.take k := by rw [Nat.add_comm]; rfl
theorem u8_of (b : UInt8) (k : Nat) (h : b.toNat = k) : b = UInt8.ofNat k := by
  apply UInt8.toNat_inj.1; rw [h, ofNat_toNat]; rw [← h]; exact b.toNat_lt
theorem num_inv (b : UInt8) (t : List UInt8) (k : Nat) (it : Item) (n : Nat) (e : numAt (b :: t) k = some (it, n)) :
    n ≤ (b :: t).length ∧ it = numI it.num ∧ fits k it.num ∧ (b :: t).take n = b :: leB k it.num ∧ n = 1 + k := by
  obtain ⟨h1, h2, h3⟩ := numAt_some e
  simp only [List.drop_succ_cons, List.drop_zero, List.length_cons] at h1 h2
  have hl : (t.take k).length = k := by rw [List.length_take]; omega
  have hn : it.num = sg k (leN (t.take k)) := by rw [h2]; rfl
  refine ⟨by rw [h3, List.length_cons]; omega, by rw [hn]; exact h2, ?_, ?_, h3⟩
  · rw [hn]; exact sg_fits _ _ (by have := leN_lt (t.take k); rwa [hl] at this)
  · rw [h3, take_cons1, hn, le_sg k _ hl]
theorem one_form (s : List UInt8) (it : Item) (n : Nat) (e : rdItem s = some (it, n)) (hs : dsize it = n) (hl : it.txt.length ≤ 524288) (hn : numberOf it.txt = none) :
    n ≤ s.length ∧ Wf it ∧ s.take n = data it := by
  cases s with
  | nil => cases e
  | cons b t =>
    have hb := b.toNat_lt
    rw [rdItem_cons] at e
    unfold rdF at e
    split at e
    · rename_i h1
      have e' := Option.some.inj e
      have e1 : it = numI b.toNat := (congrArg Prod.fst e').symm
      have e2 : n = 1 := (congrArg Prod.snd e').symm
      subst e1; subst e2
      refine ⟨by simp, Or.inl ⟨rfl, rfl, ?_⟩, ?_⟩
      · unfold I64 numI; simp only; omega
      · show [b] = ndata (b.toNat : Int)
        unfold ndata
        rw [if_pos ⟨by omega, by omega⟩, Int.toNat_natCast, ← u8_of b _ rfl]
    split at e
    · rename_i h1 h2
      obtain ⟨g1, g2, g3⟩ := txtAt_some e
      simp only [List.drop_succ_cons, List.drop_zero, List.length_cons] at g1 g2
      have hL : (t.take (b.toNat - 128)).length = b.toNat - 128 := by rw [List.length_take]; omega
      subst g2
      refine ⟨by rw [g3, List.length_cons]; omega, Or.inr ⟨rfl, rfl, hn, hl⟩, ?_⟩
      rw [g3, take_cons1]
      generalize t.take (b.toNat - 128) = q at *
      rw [show data (txtI q) = tdata q from rfl]
      unfold tdata
      rw [if_pos (by omega), hL, ← u8_of b _ (by omega)]
    split at e
    · split at e
      · rename_i h1 h2 h3 h4
        have e' := Option.some.inj e
        have e1 := (congrArg Prod.fst e').symm
        have e2 : n = 2 := (congrArg Prod.snd e').symm
        simp only at e1
        subst e1; subst e2
        cases t with
        | nil => simp at h4
        | cons c t =>
          have hc := c.toNat_lt
          simp only [List.getD_cons_succ, List.getD_cons_zero] at hs ⊢
          have hs' : nsize (s13 (b.toNat * 256 + c.toNat)) = 2 := hs
          have hr : -4096 ≤ s13 (b.toNat * 256 + c.toNat) ∧ s13 (b.toNat * 256 + c.toNat) ≤ 4095 := by unfold s13; split <;> omega
          refine ⟨by simp, Or.inl ⟨rfl, rfl, ?_⟩, ?_⟩
          · unfold I64 numI; simp only; omega
          · show [b, c] = ndata (s13 (b.toNat * 256 + c.toNat))
            have h0 : ¬ (0 ≤ s13 (b.toNat * 256 + c.toNat) ∧ s13 (b.toNat * 256 + c.toNat) ≤ 127) := by
              intro h; unfold nsize at hs'; rw [if_pos h] at hs'; omega
            unfold ndata
            rw [if_neg h0, if_pos hr]
            have k1 : (s13 (b.toNat * 256 + c.toNat) % 8192 / 256).toNat = b.toNat - 192 := by unfold s13; split <;> omega
            have k2 : (s13 (b.toNat * 256 + c.toNat) % 256).toNat = c.toNat := by unfold s13; split <;> omega
            rw [k1, k2, ← u8_of b _ (by omega), ← u8_of c _ rfl]
      · cases e
    split at e
    · split at e
      · rename_i h1 h2 h3 h4 h5
        cases t with
        | nil => simp at h5
        | cons c t =>
          have hc := c.toNat_lt
          simp only [List.getD_cons_succ, List.getD_cons_zero] at e
          obtain ⟨g1, g2, g3⟩ := txtAt_some e
          generalize hL : (b.toNat * 256 + c.toNat) % 4096 = L at *
          simp only [List.drop_succ_cons, List.drop_zero, List.length_cons] at g1 g2
          have hk : (t.take L).length = L := by rw [List.length_take]; omega
          subst g2
          have hs' : thead (t.take L).length + (t.take L).length = n := hs
          rw [hk] at hs'
          have hL2 : ¬ L ≤ 63 := by intro h; unfold thead at hs'; rw [if_pos h] at hs'; omega
          refine ⟨by rw [g3, List.length_cons, List.length_cons]; omega, Or.inr ⟨rfl, rfl, hn, hl⟩, ?_⟩
          rw [g3, show 2 + L = L + 1 + 1 by omega]
          simp only [List.take_succ_cons]
          generalize t.take L = q at *
          rw [show data (txtI q) = tdata q from rfl]
          unfold tdata
          rw [if_neg (by omega), if_pos (by omega), hk, ← u8_of b _ (by omega), ← u8_of c _ (by omega)]
      · cases e
    split at e
    · split at e
      · rename_i h1 h2 h3 h4 h5 h6
        simp only [List.drop_succ_cons, List.drop_zero, List.length_cons] at e h6
        have h4l : (t.take 4).length = 4 := by rw [List.length_take]; omega
        have hlt := leN_lt (t.take 4)
        rw [h4l] at hlt
        obtain ⟨g1, g2, g3⟩ := txtAt_some e
        have hq : leB 4 ((leN (t.take 4) : Nat) : Int) = t.take 4 := by
          refine leN_inj _ _ (by rw [leB_len, h4l]) ?_
          rw [leB_nat _ _ hlt]
        generalize hL : leN (t.take 4) = L at *
        simp only [List.drop_succ_cons, List.length_cons] at g1 g2
        have hk : ((t.drop 4).take L).length = L := by rw [List.length_take, List.length_drop]; omega
        subst g2
        have hs' : thead ((t.drop 4).take L).length + ((t.drop 4).take L).length = n := hs
        rw [hk] at hs'
        have hL2 : ¬ L ≤ 63 := by intro h; unfold thead at hs'; rw [if_pos h] at hs'; omega
        have hL3 : ¬ L ≤ 4095 := by intro h; unfold thead at hs'; rw [if_neg hL2, if_pos h] at hs'; omega
        refine ⟨by rw [g3, List.length_cons]; omega, Or.inr ⟨rfl, rfl, hn, hl⟩, ?_⟩
        rw [g3, show 5 + L = 1 + (4 + L) by omega, take_cons1, List.take_add]
        rw [show data (txtI ((t.drop 4).take L)) = tdata ((t.drop 4).take L) from rfl]
        unfold tdata
        rw [if_neg (by omega), if_neg (by omega), hk, hq, u8_of b 240 h5]
        rfl
      · cases e
    have fin : ∀ (k : Nat) (hd : UInt8), b = hd → numAt (b :: t) k = some (it, n) → (∀ m : Int, fits k m → I64 m) → (∀ m : Int, fits k m → nsize m = 1 + k → ndata m = hd :: leB k m) →
        n ≤ (b :: t).length ∧ Wf it ∧ (b :: t).take n = data it := by
      intro k hd hbd he h64 hdat
      obtain ⟨g1, g2, g3, g4, g5⟩ := num_inv b t k it n he
      refine ⟨g1, Or.inl ⟨by rw [g2]; rfl, by rw [g2]; rfl, h64 _ g3⟩, ?_⟩
      rw [g4]
      have hs' : nsize it.num = 1 + k := by rw [g2] at hs; rw [← g5]; exact hs
      rw [show data it = ndata it.num by rw [g2]; rfl, hdat _ g3 hs', hbd]
    split at e
    · rename_i hf
      refine fin 2 241 (u8_of b 241 hf) e (fun m hm => by unfold fits at hm; unfold I64; omega) (fun m hm hz => ?_)
      unfold nsize at hz; unfold fits at hm
      have c1 : ¬ (0 ≤ m ∧ m ≤ 127) := fun h => by rw [if_pos h] at hz; omega
      have c2 : ¬ (-4096 ≤ m ∧ m ≤ 4095) := fun h => by rw [if_neg c1, if_pos h] at hz; omega
      unfold ndata; rw [if_neg c1, if_neg c2, if_pos (by omega)]
    split at e
    · rename_i hf
      refine fin 3 242 (u8_of b 242 hf) e (fun m hm => by unfold fits at hm; unfold I64; omega) (fun m hm hz => ?_)
      unfold nsize at hz; unfold fits at hm
      have c1 : ¬ (0 ≤ m ∧ m ≤ 127) := fun h => by rw [if_pos h] at hz; omega
      have c2 : ¬ (-4096 ≤ m ∧ m ≤ 4095) := fun h => by rw [if_neg c1, if_pos h] at hz; omega
      have c3 : ¬ (-32768 ≤ m ∧ m ≤ 32767) := fun h => by rw [if_neg c1, if_neg c2, if_pos h] at hz; omega
      unfold ndata; rw [if_neg c1, if_neg c2, if_neg c3, if_pos (by omega)]
    split at e
    · rename_i hf
      refine fin 4 243 (u8_of b 243 hf) e (fun m hm => by unfold fits at hm; unfold I64; omega) (fun m hm hz => ?_)
      unfold nsize at hz; unfold fits at hm
      have c1 : ¬ (0 ≤ m ∧ m ≤ 127) := fun h => by rw [if_pos h] at hz; omega
      have c2 : ¬ (-4096 ≤ m ∧ m ≤ 4095) := fun h => by rw [if_neg c1, if_pos h] at hz; omega
      have c3 : ¬ (-32768 ≤ m ∧ m ≤ 32767) := fun h => by rw [if_neg c1, if_neg c2, if_pos h] at hz; omega
      have c4 : ¬ (-8388608 ≤ m ∧ m ≤ 8388607) := fun h => by rw [if_neg c1, if_neg c2, if_neg c3, if_pos h] at hz; omega
      unfold ndata; rw [if_neg c1, if_neg c2, if_neg c3, if_neg c4, if_pos (by omega)]
    split at e
    · rename_i hf
      refine fin 8 244 (u8_of b 244 hf) e (fun m hm => by unfold fits at hm; unfold I64; omega) (fun m hm hz => ?_)
      unfold nsize at hz; unfold fits at hm
      have c1 : ¬ (0 ≤ m ∧ m ≤ 127) := fun h => by rw [if_pos h] at hz; omega
      have c2 : ¬ (-4096 ≤ m ∧ m ≤ 4095) := fun h => by rw [if_neg c1, if_pos h] at hz; omega
      have c3 : ¬ (-32768 ≤ m ∧ m ≤ 32767) := fun h => by rw [if_neg c1, if_neg c2, if_pos h] at hz; omega
      have c4 : ¬ (-8388608 ≤ m ∧ m ≤ 8388607) := fun h => by rw [if_neg c1, if_neg c2, if_neg c3, if_pos h] at hz; omega
      have c5 : ¬ (-2147483648 ≤ m ∧ m ≤ 2147483647) := fun h => by rw [if_neg c1, if_neg c2, if_neg c3, if_neg c4, if_pos h] at hz; omega
      unfold ndata; rw [if_neg c1, if_neg c2, if_neg c3, if_neg c4, if_neg c5]
    · cases e
theorem rd_span {s : List UInt8} {it : Item} {n : Nat} (e : rdItem s = some (it, n)) : 1 ≤ n ∧ n ≤ s.length := by
  cases s with
  | nil => cases e
  | cons b t =>
    rw [rdItem_cons] at e
    have ht : ∀ {h L}, 1 ≤ h → txtAt (b :: t) h L = some (it, n) → 1 ≤ n ∧ n ≤ (b :: t).length := fun hh e => by
      obtain ⟨h1, _, h3⟩ := txtAt_some e; omega
    have hm : ∀ {k}, numAt (b :: t) k = some (it, n) → 1 ≤ n ∧ n ≤ (b :: t).length := fun e => by
      obtain ⟨h1, _, h3⟩ := numAt_some e; omega
    have hs : ∀ {x : Item} {k : Nat}, 1 ≤ k → k ≤ (b :: t).length → some (x, k) = some (it, n) → 1 ≤ n ∧ n ≤ (b :: t).length := fun h1 h2 e => by
      have := congrArg Prod.snd (Option.some.inj e); simp only at this; omega
    unfold rdF at e
    split at e
    · exact hs (Nat.le_refl _) (by simp) e
    split at e
    · exact ht (Nat.le_refl _) e
    split at e
    · split at e
      · exact hs (by decide) (by assumption) e
      · cases e
    split at e
    · split at e
      · exact ht (by decide) e
      · cases e
    split at e
    · split at e
      · exact ht (by decide) e
      · cases e
    split at e
    · exact hm e
    split at e
    · exact hm e
    split at e
    · exact hm e
    split at e
    · exact hm e
    · cases e

/-! back lengths. -/
def bsz (n : Nat) : Nat := if n < 128 then 1 else if n < 16384 then 2 else if n < 2097152 then 3 else if n < 268435456 then 4 else 5
def bbyte (n g i : Nat) : UInt8 := UInt8.ofNat (n / 128 ^ (g - 1 - i) % 128 + if 0 < i then 128 else 0)
def back (n : Nat) : List UInt8 := (List.range (bsz n)).map (bbyte n (bsz n))
theorem back_len (n : Nat) : (back n).length = bsz n := by simp [back]
theorem bsz_pos (n : Nat) : 1 ≤ bsz n := by unfold bsz; (repeat' split) <;> omega
theorem bsz_le (n : Nat) : bsz n ≤ 5 := by unfold bsz; (repeat' split) <;> omega
theorem bsz_le3 (n : Nat) (h : n < 2097152) : bsz n ≤ 3 := by unfold bsz; (repeat' split) <;> omega
def ent (it : Item) : List UInt8 := data it ++ back (dsize it)
def esz (it : Item) : Nat := dsize it + bsz (dsize it)
theorem ent_len (it : Item) : (ent it).length = esz it := by unfold ent esz; rw [List.length_append, data_len, back_len]
theorem esz_pos (it : Item) : 2 ≤ esz it := by have := dsize_pos it; have := bsz_pos (dsize it); unfold esz; omega
theorem esz_le (it : Item) (h : Wf it) : esz it ≤ 524296 := by have := dsize_le it h; have := bsz_le3 (dsize it) (by omega); unfold esz; omega
def bodyOf (l : List Item) : List UInt8 := l.flatMap ent
theorem bodyOf_cons (it : Item) (l : List Item) : bodyOf (it :: l) = ent it ++ bodyOf l := by simp [bodyOf]
theorem bodyOf_app (a b : List Item) : bodyOf (a ++ b) = bodyOf a ++ bodyOf b := by simp [bodyOf]
def bsum (l : List Item) : Nat := (l.map esz).foldr (· + ·) 0
theorem bsum_cons (it : Item) (l : List Item) : bsum (it :: l) = esz it + bsum l := rfl
theorem bsum_nil : bsum [] = 0 := rfl
theorem bsum_app : ∀ a b : List Item, bsum (a ++ b) = bsum a + bsum b
  | [], b => by simp [bsum]
  | x :: a, b => by rw [List.cons_append, bsum_cons, bsum_cons, bsum_app a b]; omega
theorem bodyOf_len : ∀ l : List Item, (bodyOf l).length = bsum l
  | [] => rfl
  | x :: l => by rw [bodyOf_cons, List.length_append, ent_len, bodyOf_len l, bsum_cons]
theorem bsum_ge : ∀ l : List Item, 2 * l.length ≤ bsum l
  | [] => by simp
  | x :: l => by have := bsum_ge l; have := esz_pos x; rw [bsum_cons, List.length_cons]; omega

/-! the entries of a body. -/
structure Ent where
  place : Nat
  it : Item
  begin : Nat
  span : Nat
def esp (n : Nat) : Nat := n + bsz n
def parse : Nat → Nat → Nat → List UInt8 → List Ent × Bool
  | 0, _, _, _ => ([], true)
  | k + 1, p, at_, s =>
    if s = [] then ([], false)
    else match rdItem s with
      | none => ([], true)
      | some (it, n) => (⟨p, it, at_, n⟩ :: (parse k (p + 1) (at_ + esp n) (s.drop (esp n))).1, (parse k (p + 1) (at_ + esp n) (s.drop (esp n))).2)
theorem parse_nil (k p a : Nat) : parse (k + 1) p a [] = ([], false) := by simp [parse]
theorem parse_none (k p a : Nat) {s : List UInt8} (hs : s ≠ []) (h : rdItem s = none) : parse (k + 1) p a s = ([], true) := by
  simp only [parse]; rw [if_neg hs, h]
theorem parse_some (k p a : Nat) {s : List UInt8} {it : Item} {n : Nat} (h : rdItem s = some (it, n)) :
    parse (k + 1) p a s = (⟨p, it, a, n⟩ :: (parse k (p + 1) (a + esp n) (s.drop (esp n))).1, (parse k (p + 1) (a + esp n) (s.drop (esp n))).2) := by
  have hs : s ≠ [] := by rintro rfl; cases h
  simp only [parse]; rw [if_neg hs, h]
/-- the entries that these items are, from a place on. -/
def entsFrom : Nat → Nat → List Item → List Ent
  | _, _, [] => []
  | p, a, it :: l => ⟨p, it, a, dsize it⟩ :: entsFrom (p + 1) (a + esz it) l
theorem ents_items : ∀ (l : List Item) (p a : Nat), (entsFrom p a l).map Ent.it = l
  | [], _, _ => rfl
  | x :: l, p, a => by simp [entsFrom, ents_items l]
theorem ents_len : ∀ (l : List Item) (p a : Nat), (entsFrom p a l).length = l.length
  | [], _, _ => rfl
  | x :: l, p, a => by simp [entsFrom, ents_len l]
theorem parse_body : ∀ (l : List Item) (k p a : Nat), (∀ it ∈ l, Wf it) → l.length < k → parse k p a (bodyOf l) = (entsFrom p a l, false)
  | [], k + 1, p, a, _, _ => by simp [bodyOf, parse, entsFrom]
  | x :: l, k + 1, p, a, hw, hk => by
    have hx := hw x (by simp)
    have hr : rdItem (bodyOf (x :: l)) = some (x, dsize x) := by
      rw [bodyOf_cons]; unfold ent; rw [List.append_assoc]; exact rd_data x hx _
    rw [parse_some k p a hr]
    have hd : (bodyOf (x :: l)).drop (esp (dsize x)) = bodyOf l := by
      rw [bodyOf_cons]; exact List.drop_left' (ent_len x)
    rw [hd, show a + esp (dsize x) = a + esz x from rfl, parse_body l k (p + 1) (a + esz x) (fun it h => hw it (by simp [h])) (by simpa using hk)]
    rfl
/-- an entry in its one form. -/
def okEnt (body : List UInt8) (e : Ent) : Prop := (dsize e.it = e.span ∧ e.it.txt.length ≤ 524288) ∧ numberOf e.it.txt = none ∧ (body.drop (e.begin + e.span)).take (bsz e.span) = back e.span
theorem body_parse (b : List UInt8) : ∀ (k p a : Nat) (s : List UInt8), s = b.drop a → (parse k p a s).2 = false → (∀ e ∈ (parse k p a s).1, okEnt b e) →
    ∃ l : List Item, (∀ it ∈ l, Wf it) ∧ s = bodyOf l ∧ (parse k p a s).1 = entsFrom p a l
  | 0, p, a, s, _, h, _ => by simp [parse] at h
  | k + 1, p, a, s, hs, h, hok => by
    by_cases hn : s = []
    · subst hn; exact ⟨[], by simp, by simp [bodyOf], by rw [parse_nil]; rfl⟩
    · cases hr : rdItem s with
      | none => rw [parse_none k p a hn hr] at h; simp at h
      | some x =>
        obtain ⟨it, n⟩ := x
        rw [parse_some k p a hr] at h hok
        simp only at h hok
        have ho := hok ⟨p, it, a, n⟩ (by simp)
        obtain ⟨⟨ho1, ho2⟩, ho3, ho4⟩ := ho
        simp only at ho1 ho2 ho3 ho4
        obtain ⟨q1, q2, q3⟩ := one_form s it n hr ho1 ho2 ho3
        have hb : (s.drop n).take (bsz n) = back n := by rw [hs, List.drop_drop]; exact ho4
        obtain ⟨l, i1, i2, i3⟩ := body_parse b k (p + 1) (a + esp n) (s.drop (esp n)) (by rw [hs, List.drop_drop]) h (fun e he => hok e (by simp [he]))
        refine ⟨it :: l, ?_, ?_, ?_⟩
        · intro x hx; rcases List.mem_cons.1 hx with rfl | hx
          · exact q2
          · exact i1 x hx
        · rw [bodyOf_cons, ← i2]
          have : ent it = s.take (esp n) := by
            unfold ent esp; rw [List.take_add, q3, hb, ho1]
          rw [this, List.take_append_drop]
        · rw [parse_some k p a hr]; simp only [entsFrom]
          rw [i3, ho1]; unfold esz esp; rw [ho1]
theorem ents_ok (body : List UInt8) : ∀ (l : List Item) (p a : Nat), (∀ it ∈ l, Wf it) → body.drop a = bodyOf l → ∀ e ∈ entsFrom p a l, okEnt body e
  | [], p, a, _, _, e, he => by simp [entsFrom] at he
  | x :: l, p, a, hw, hb, e, he => by
    have hx := hw x (by simp)
    rcases List.mem_cons.1 he with rfl | he
    · refine ⟨⟨rfl, ?_⟩, ?_, ?_⟩
      · rcases hx with ⟨_, h, _⟩ | ⟨_, _, _, h⟩
        · show x.txt.length ≤ _; rw [h]; simp
        · exact h
      · rcases hx with ⟨_, h, _⟩ | ⟨_, _, h, _⟩
        · show numberOf x.txt = none; rw [h]; decide +kernel
        · exact h
      · show (body.drop (a + dsize x)).take (bsz (dsize x)) = _
        rw [← List.drop_drop, hb, bodyOf_cons]; unfold ent
        rw [List.append_assoc, List.drop_left' (data_len x), List.take_left' (back_len _)]
    · refine ents_ok body l (p + 1) (a + esz x) (fun it h => hw it (by simp [h])) ?_ e he
      rw [← List.drop_drop, hb, bodyOf_cons, List.drop_left' (ent_len x)]

/-! the listpack of these items. -/
def build (l : List Item) : List UInt8 := leB 4 ((7 + bsum l : Nat) : Int) ++ (leB 2 ((min l.length 65535 : Nat) : Int) ++ (bodyOf l ++ [255]))
theorem build_len (l : List Item) : (build l).length = 7 + bsum l := by
  unfold build; simp only [List.length_append, leB_len, bodyOf_len, List.length_cons, List.length_nil]; omega
structure Pk (p : List UInt8) (l : List Item) : Prop where
  wf : ∀ it ∈ l, Wf it
  len : l.length ≤ 1048576
  eq : p = build l
  size : p.length ≤ 1073741824
def bod (p : List UInt8) : List UInt8 := (p.drop 6).take (p.length - 7)
theorem build_body (l : List Item) : bod (build l) = bodyOf l := by
  unfold bod; rw [build_len]
  have e : (build l).drop 6 = bodyOf l ++ [255] := by
    unfold build; rw [← List.append_assoc, List.drop_left' (by simp [leB_len])]
  rw [e, List.take_left' (by rw [bodyOf_len]; omega)]
theorem Pk.ents {p l} (h : Pk p l) : parse (p.length + 1) 0 0 (bod p) = (entsFrom 0 0 l, false) := by
  have := bsum_ge l
  have hl := h.size
  rw [h.eq, build_body, build_len]
  exact parse_body l _ 0 0 h.wf (by omega)
theorem Pk.uniq {p l m} (h : Pk p l) (h' : Pk p m) : l = m := by
  have := h.ents.symm.trans h'.ents
  have := congrArg Prod.fst this
  simp only at this
  rw [← ents_items l 0 0, this, ents_items]
/-- what 'read' asks. -/
structure Reads (p : List UInt8) : Prop where
  len7 : 7 ≤ p.length
  size : p.length ≤ 1073741824
  last : p.getD (p.length - 1) 0 = 255
  head : leN (p.take 4) = p.length
  ok : (parse (p.length + 1) 0 0 (bod p)).2 = false
  one : ∀ e ∈ (parse (p.length + 1) 0 0 (bod p)).1, okEnt (bod p) e
  many : (parse (p.length + 1) 0 0 (bod p)).1.length ≤ 1048576
  cnt : leN ((p.drop 4).take 2) = min (parse (p.length + 1) 0 0 (bod p)).1.length 65535
theorem Pk.reads {p l} (h : Pk p l) : Reads p := by
  have he := h.ents
  have hw := h.wf
  have hs := h.size
  have hsum : 7 + bsum l ≤ 1073741824 := by rw [← build_len, ← h.eq]; exact hs
  have hlen : p.length = 7 + bsum l := by rw [h.eq, build_len]
  refine ⟨by omega, hs, ?_, ?_, by rw [he], ?_, by rw [he]; simpa [ents_len] using h.len, ?_⟩
  · have e : build l = (leB 4 ((7 + bsum l : Nat) : Int) ++ (leB 2 ((min l.length 65535 : Nat) : Int) ++ bodyOf l)) ++ [255] := by simp [build]
    rw [hlen, h.eq, e, List.getD_eq_getElem?_getD, List.getElem?_append_right (by simp [leB_len, bodyOf_len]; omega)]
    have : 7 + bsum l - 1 - (leB 4 ((7 + bsum l : Nat) : Int) ++ (leB 2 ((min l.length 65535 : Nat) : Int) ++ bodyOf l)).length = 0 := by
      simp only [List.length_append, leB_len, bodyOf_len]; omega
    rw [this]; rfl
  · rw [hlen, h.eq]; unfold build; rw [List.take_left' (leB_len _ _), leB_nat _ _ (by omega)]
  · rw [he, h.eq, build_body]; exact ents_ok _ l 0 0 hw (by simp)
  · rw [he, h.eq]; unfold build
    rw [List.drop_left' (leB_len _ _), List.take_left' (leB_len _ _), leB_nat _ _ (by omega)]
    simp [ents_len]
theorem Reads.pk {p} (h : Reads p) : ∃ l, Pk p l ∧ (parse (p.length + 1) 0 0 (bod p)).1 = entsFrom 0 0 l := by
  obtain ⟨l, h1, h2, h3⟩ := body_parse (bod p) (p.length + 1) 0 0 (bod p) (by simp) h.ok h.one
  refine ⟨l, ⟨h1, ?_, ?_, h.size⟩, h3⟩
  · have := h.many; rw [h3, ents_len] at this; exact this
  · have h7 := h.len7; have hs := h.size
    have e0 : p = p.take 4 ++ ((p.drop 4).take 2 ++ (bod p ++ [255])) := by
      have e1 : p.drop 6 = bod p ++ [255] := by
        have e2 : p.drop 6 = (p.drop 6).take (p.length - 7) ++ (p.drop 6).drop (p.length - 7) := (List.take_append_drop _ _).symm
        have e3 : (p.drop 6).drop (p.length - 7) = [255] := by
          rw [List.drop_drop, show 6 + (p.length - 7) = p.length - 1 by omega]
          have hl := h.last
          rw [List.drop_eq_getElem_cons (by omega), List.drop_eq_nil_of_le (by omega)]
          rw [List.getD_eq_getElem?_getD, List.getElem?_eq_getElem (by omega)] at hl
          simp only [Option.getD_some] at hl
          rw [hl]
        rw [e3] at e2
        exact e2
      conv => lhs; rw [← List.take_append_drop 4 p, ← List.take_append_drop 2 (p.drop 4), List.drop_drop, e1]
    have hlen : p.length = 7 + bsum l := by
      have := congrArg List.length e0
      rw [h2] at this
      simp only [List.length_append, List.length_take, List.length_drop, bodyOf_len, List.length_cons, List.length_nil] at this
      omega
    unfold build
    rw [← h2]
    conv => lhs; rw [e0]
    have k1 : leB 4 ((7 + bsum l : Nat) : Int) = p.take 4 := by
      refine leN_inj _ _ (by rw [leB_len, List.length_take]; omega) ?_
      rw [leB_nat _ _ (by omega), h.head, hlen]
    have k2 : leB 2 ((min l.length 65535 : Nat) : Int) = (p.drop 4).take 2 := by
      refine leN_inj _ _ (by rw [leB_len, List.length_take, List.length_drop]; omega) ?_
      rw [leB_nat _ _ (by omega), h.cnt, h3, ents_len]
    rw [k1, k2]
end Go.Proofs.YtadihhngegimkaaGreatDoor.LM
