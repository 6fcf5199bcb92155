/-
  Merging goes in either order: the entries of three layers, whichever two come first. Conditions: all layers are valid.
-/
import Derived.Test.YtcecjdjfbgmogaaDoorPutX
import Derived.Test.YtcecjdjfbgmogaaDoorSameL
namespace Go.Proofs.YtcecjdjfbgmogaaDoor
open Go.RowKit

theorem keysM_of_distE : ∀ es : List Ent, distE es = true → (es.map Ent.key).Nodup
  | [], _ => List.nodup_nil
  | e :: t, h => by
    unfold distE at h
    rw [Bool.and_eq_true, List.all_eq_true] at h
    rw [List.map_cons, List.nodup_cons]
    refine ⟨fun hm => ?_, keysM_of_distE t h.2⟩
    obtain ⟨x, hx, e1⟩ := List.mem_map.1 hm
    have h1 := h.1 x hx
    obtain ⟨e2, e3⟩ := key_inj e1
    have h2 : e.of x.s x.k = true := (of_iff e x.s x.k).2 ⟨e2.symm, e3.symm⟩
    rw [h2] at h1
    cases h1
theorem vlayer_keysM {es : List Ent} (h : vlayer es = true) : (es.map Ent.key).Nodup := keysM_of_distE es (vlayer_dist h)
theorem overE_op {t l : Ent} (h : t.op ≠ 2) : overE t l = t := by unfold overE; rw [if_neg h]
theorem overE_drop {t l : Ent} (h : t.op = 2) (h1 : l.op = 1) : overE t l = ⟨t.s, t.k, 0, t.v⟩ := by unfold overE; rw [if_pos h, if_pos h1]
theorem overE_add {t l : Ent} (h : t.op = 2) (h1 : l.op ≠ 1) : overE t l = ⟨l.s, l.k, l.op, l.v ++ ⟨#[44]⟩ ++ t.v⟩ := by unfold overE; rw [if_pos h, if_neg h1]
theorem overE_assoc (t u l : Ent) : overE t (overE u l) = overE (overE t u) l := by
  by_cases ht : t.op = 2
  · by_cases hu : u.op = 2
    · have hu1 : u.op ≠ 1 := by omega
      rw [overE_add ht hu1]
      by_cases hl : l.op = 1
      · rw [overE_drop hu hl, overE_add (l := ⟨u.s, u.k, 0, u.v⟩) ht (by show (0 : Int) ≠ 1; omega), overE_drop (t := ⟨u.s, u.k, u.op, u.v ++ ⟨#[44]⟩ ++ t.v⟩) hu hl]
      · rw [overE_add hu hl, overE_add (l := ⟨l.s, l.k, l.op, l.v ++ ⟨#[44]⟩ ++ u.v⟩) ht hl, overE_add (t := ⟨u.s, u.k, u.op, u.v ++ ⟨#[44]⟩ ++ t.v⟩) hu hl]
        simp only [ByteArray.append_assoc]
    · rw [overE_op hu]
      by_cases hu1 : u.op = 1
      · rw [overE_drop ht hu1, overE_op (t := ⟨t.s, t.k, 0, t.v⟩) (by show (0 : Int) ≠ 2; omega)]
      · rw [overE_add ht hu1, overE_op (t := ⟨u.s, u.k, u.op, u.v ++ ⟨#[44]⟩ ++ t.v⟩) hu]
  · rw [overE_op ht, overE_op ht, overE_op ht]
theorem overE_of {t l : Ent} {s k : ByteArray} (h1 : t.of s k = true) (h2 : l.of s k = true) : (overE t l).of s k = true := by
  unfold overE
  split
  · split
    · exact h1
    · exact h2
  · exact h1
/-- what one layer over another one has at a place -/
def comb : Option Ent → Option Ent → Option Ent
  | some t, some l => some (overE t l)
  | some t, none => some t
  | none, x => x
theorem comb_assoc (a b c : Option Ent) : comb a (comb b c) = comb (comb a b) c := by
  rcases a with _ | a
  · rfl
  · rcases b with _ | b
    · rcases c with _ | c <;> rfl
    · rcases c with _ | c
      · rfl
      · show some (overE a (overE b c)) = some (overE (overE a b) c)
        rw [overE_assoc]
theorem last_iff {P : List Ent} (hd : distE P = true) (s k : ByteArray) (e : Ent) : lastE P s k = some e ↔ e ∈ P ∧ e.of s k = true := by
  constructor
  · intro h
    obtain ⟨h1, h2⟩ := lastE_mem h
    exact ⟨h1, (of_iff _ _ _).2 h2⟩
  · rintro ⟨h1, h2⟩
    obtain ⟨rfl, rfl⟩ := (of_iff _ _ _).1 h2
    obtain ⟨j, hj, h3, h4⟩ := idx_self hd h1
    rcases last_idx hd e.s e.k with ⟨h5, _⟩ | ⟨j', hj', h5, h6⟩
    · omega
    · have : j' = j := by omega
      subst this
      rw [h6, h4]
theorem merge_last {X Y : List Ent} (hx : distE X = true) (hy : distE Y = true) (hm : distE (mergeR X Y) = true) (s k : ByteArray) : lastE (mergeR X Y) s k = comb (lastE X s k) (lastE Y s k) := by
  rcases hX : lastE X s k with _ | t
  · rcases hY : lastE Y s k with _ | l
    · rcases hM : lastE (mergeR X Y) s k with _ | e
      · rfl
      · exfalso
        obtain ⟨h1, h2⟩ := (last_iff hm s k e).1 hM
        unfold mergeR at h1
        rcases List.mem_append.1 h1 with h3 | h3
        · obtain ⟨l, hl, rfl⟩ := List.mem_map.1 h3
          have h4 : l.of s k = true := by
            unfold ovr at h2
            split at h2
            · rename_i t ht
              unfold overE at h2
              obtain ⟨_, h5, h6⟩ := lastE_mem ht
              have h7 : t.of s k = true → l.of s k = true := fun h8 => by
                obtain ⟨h9, h10⟩ := (of_iff _ _ _).1 h8
                exact (of_iff _ _ _).2 ⟨h5.symm.trans h9, h6.symm.trans h10⟩
              split at h2
              · split at h2
                · exact h7 h2
                · exact h2
              · exact h7 h2
            · exact h2
          have h5 := (last_iff hy s k l).2 ⟨hl, h4⟩
          rw [hY] at h5
          cases h5
        · have h5 := (last_iff hx s k e).2 ⟨(List.mem_filter.1 h3).1, h2⟩
          rw [hX] at h5
          cases h5
    · obtain ⟨h1, h2⟩ := (last_iff hy s k l).1 hY
      refine (last_iff hm s k l).2 ⟨?_, h2⟩
      unfold mergeR
      refine List.mem_append.2 (.inl (List.mem_map.2 ⟨l, h1, ?_⟩))
      obtain ⟨rfl, rfl⟩ := (of_iff _ _ _).1 h2
      unfold ovr
      rw [hX]
  · obtain ⟨h3, h4⟩ := (last_iff hx s k t).1 hX
    rcases hY : lastE Y s k with _ | l
    · refine (last_iff hm s k t).2 ⟨?_, h4⟩
      unfold mergeR
      refine List.mem_append.2 (.inr (List.mem_filter.2 ⟨h3, ?_⟩))
      obtain ⟨rfl, rfl⟩ := (of_iff _ _ _).1 h4
      unfold freshIn
      rw [← lastE_isSome, hY]
      rfl
    · obtain ⟨h1, h2⟩ := (last_iff hy s k l).1 hY
      refine (last_iff hm s k _).2 ⟨?_, overE_of h4 h2⟩
      unfold mergeR
      refine List.mem_append.2 (.inl (List.mem_map.2 ⟨l, h1, ?_⟩))
      obtain ⟨rfl, rfl⟩ := (of_iff _ _ _).1 h2
      unfold ovr
      rw [hX]
/-- merged in either order: the same entries -/
theorem merge3 {T U L : List Ent} (hT : vlayer T = true) (hU : vlayer U = true) (hL : vlayer L = true) (h1 : vlayer (mergeR U L) = true) (h2 : vlayer (mergeR T (mergeR U L)) = true) (h3 : vlayer (mergeR T U) = true) (h4 : vlayer (mergeR (mergeR T U) L) = true) :
    sameL (mergeR T (mergeR U L)) (mergeR (mergeR T U) L) = true := by
  have key : ∀ s k, lastE (mergeR T (mergeR U L)) s k = lastE (mergeR (mergeR T U) L) s k := fun s k => by
    rw [merge_last (vlayer_dist hT) (vlayer_dist h1) (vlayer_dist h2), merge_last (vlayer_dist hU) (vlayer_dist hL) (vlayer_dist h1), merge_last (vlayer_dist h3) (vlayer_dist hL) (vlayer_dist h4), merge_last (vlayer_dist hT) (vlayer_dist hU) (vlayer_dist h3), comb_assoc]
  have hmem : ∀ e, e ∈ mergeR T (mergeR U L) ↔ e ∈ mergeR (mergeR T U) L := fun e => by
    constructor
    · intro h
      have h5 := (last_iff (vlayer_dist h2) e.s e.k e).2 ⟨h, of_self e⟩
      rw [key] at h5
      exact ((last_iff (vlayer_dist h4) e.s e.k e).1 h5).1
    · intro h
      have h5 := (last_iff (vlayer_dist h4) e.s e.k e).2 ⟨h, of_self e⟩
      rw [← key] at h5
      exact ((last_iff (vlayer_dist h2) e.s e.k e).1 h5).1
  unfold sameL
  rw [h2, h4, Bool.true_and, Bool.true_and]
  exact sameE_of (vlayer_keysM h2) (vlayer_keysM h4) hmem
theorem merge_yes {X Y : List Ent} (h : mergeB X Y = true) : vlayer X = true ∧ vlayer Y = true ∧ vlayer (mergeR X Y) = true ∧ mergeL X Y = mergeR X Y := by
  unfold mergeB at h
  simp only [Bool.and_eq_true] at h
  refine ⟨h.1, h.2.1, h.2.2, ?_⟩
  unfold mergeL chkE
  rw [if_pos ⟨h.1, h.2.1⟩, if_pos h.2.2]
/-- the promise, as the law asks it -/
theorem merge3_told {T U L : List Ent} (h0 : mergeB U L = true) (h1 : mergeB T (mergeL U L) = true) (h2 : mergeB T U = true) (h3 : mergeB (mergeL T U) L = true) : sameL (mergeL T (mergeL U L)) (mergeL (mergeL T U) L) = true := by
  obtain ⟨a1, a2, a3, a4⟩ := merge_yes h0
  obtain ⟨b1, _, b3, b4⟩ := merge_yes h2
  have c := merge_yes h1
  have d := merge_yes h3
  rw [c.2.2.2, d.2.2.2]
  have c3 := c.2.2.1
  have d3 := d.2.2.1
  rw [a4] at c3 ⊢
  rw [b4] at d3 ⊢
  exact merge3 b1 a1 a2 a3 c3 b3 d3
end Go.Proofs.YtcecjdjfbgmogaaDoor
