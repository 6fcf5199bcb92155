/-
  What the two tests of a layer return: the plain test 'vlayer'. Conditions: parts of at most 1048576 bytes.
-/
import Derived.Test.YtkjoolmhcfajnaaDoorLayW
namespace Go.Proofs.YtkjoolmhcfajnaaDoor
open Go.RowKit

/-- the box of a layer -/
def lbox (A : Option Addr) (n c : Nat) : Obj := .cells #[.slice A n c] 25
theorem lbox_cell {w w' : World} {A : Option Addr} {n c : Nat} (h : Grows (w.alloc (lbox A n c)) w') : w'.cell? ⟨w.heap.size, 0, none⟩ = some (.slice A n c) :=
  (h.cell (p := ⟨w.heap.size, 0, none⟩) (by simp)).trans (by simp [lbox])
theorem vlayer_no {es : List Ent} (h : okE es = false) : vlayer es = false := by unfold vlayer; rw [h]; rfl
theorem okE_at_no {es : List Ent} {k : Nat} (hk : k < es.length) (h : (vent es[k] && freshE (es.take k) es[k]) = false) : okE es = false :=
  okE_take_not (k := k + 1) (by rw [okE_step hk, h]; simp)
theorem okE_at_yes {es : List Ent} {k : Nat} (hk : k < es.length) (h0 : okE (es.take k) = true) (h1 : vent es[k] = true) (h2 : freshE (es.take k) es[k] = true) : okE (es.take (k + 1)) = true := by
  rw [okE_step hk, h0, h1, h2]; rfl
theorem EntsAt.take {w : World} {A : Option Addr} {es : List Ent} (h : EntsAt w A es) (k : Nat) : EntsAt w A (es.take k) := fun h0 => by
  have hl : 0 < es.length := by rw [List.length_take] at h0; omega
  obtain ⟨b, o, e, hb, hc⟩ := h hl
  refine ⟨b, o, e, hb, fun i hi => ?_⟩
  rw [List.length_take] at hi
  rw [List.getElem_take]
  exact hc i (by omega)
theorem entIdx_fresh {es : List Ent} {e : Ent} (h : freshE es e = true) : entIdx es e.s e.k = -1 := entIdx_none (by rw [any_fresh] at h; simpa using h)
theorem entIdx_old {es : List Ent} {e : Ent} (h : freshE es e = false) : ∃ j : Nat, entIdx es e.s e.k = (j : Int) := by
  rw [any_fresh] at h
  have h2 : es.any (fun x => x.of e.s e.k) = true := by simpa using h
  rw [List.any_eq_true] at h2
  have h3 : (es.find? fun x => x.of e.s e.k).isSome = true := by rw [List.find?_isSome]; exact h2
  obtain ⟨y, hy⟩ := Option.isSome_iff_exists.1 h3
  obtain ⟨j, _, h4, _⟩ := entIdx_some es 0 y hy
  exact ⟨j, by unfold entIdx; rw [h4]; omega⟩

set_option maxRecDepth 100000 in
set_option maxHeartbeats 4000000 in
theorem specLayer_any (A : Option Addr) (c : Nat) (es : List Ent) (w : World) (hc0 : es.length ≤ c) (hf : EFit es) (hA : EntsAt w A es) :
    Calls Tryd.prog 19 #[.agg #[.slice A es.length c]] w fun e w' => e = .returned (.bool (vlayer es)) ∧ Grows w w' := by
  have hn := hf.1
  have HF := Lib.hid hf.2
  have HA := Lib.hid hA
  clear hA hf
  obtain ⟨n, hnn⟩ : ∃ n, es.length = n := ⟨_, rfl⟩
  rw [hnn] at hn hc0
  rw [hnn]
  have HN := Lib.hid hnn
  clear hnn
  go_enter Tryd.func19, Tryd.ntmps19
  go_wp2
  go_loopw [3] (fun i wr => ∃ k : Nat, k ≤ n ∧ i = .int .i64 k ∧ Hid (okE (es.take k) = true) ∧ Hid (Grows (w.alloc (lbox A n c)) wr)) (fun i _ => n - (intOf i).toNat)
  case atStart => exact ⟨0, Nat.zero_le _, rfl, by unfold Hid; rfl, Grows.refl _⟩
  case round =>
    obtain ⟨k, hk, rfl, HL, HG⟩ := hrel
    have hb0 := lbox_cell HG.out
    by_cases hlt : k < n
    · obtain ⟨b, o, rfl, hb, hc⟩ := HA.out (by rw [HN.out]; omega)
      have hk2 : k < es.length := by rw [HN.out]; exact hlt
      obtain ⟨x, hx⟩ : ∃ x, es[k] = x := ⟨_, rfl⟩
      have hfx := HF.out k hk2
      have hbs : b < w.heap.size + 1 := by omega
      have hsz := HG.out.size
      have hbr : b < wr.heap.size := by simp at hsz; omega
      have hwr : w.heap.size < wr.heap.size := by simp at hsz; omega
      have hgr : Grows w wr := ((Grows.refl _).alloc _).trans HG.out
      have hat := (hc k hk2).keep hb hgr
      have hET : EntsAt wr (some ⟨b, o, none⟩) (es.take k) := (HA.out.take k).keep hgr
      have HGR := Lib.hid hgr
      rw [hx] at hat hfx
      obtain ⟨c0, c1, c2, c3⟩ := hat
      obtain ⟨f1, f2, f3⟩ := hfx
      have HP := Lib.hid (fun w => specPlace_any x.s x.k w f1 f2)
      have HI := Lib.hid (fun w => inRange_any x.op w)
      have HV := Lib.hid (fun w => specValue_any x.v w (by unfold maxLen; omega))
      have htl : (es.take k).length = k := by rw [List.length_take]; omega
      have HT0 : ∀ w1, Grows wr w1 → Calls Tryd.prog 32 #[.slice (some ⟨b, o, none⟩) (es.take k).length c, .string x.s, .string x.k] w1 fun e w' => e = .returned (.int .i64 (entIdx (es.take k) x.s x.k)) ∧ w1 = w' := fun w1 g => entryAt_any _ c (es.take k) x.s x.k w1 (by omega) (hET.keep g)
      rw [htl] at HT0
      have HT := Lib.hid HT0
      have HX := Lib.hid hx
      have HO : Hid (vent es[k] = vent x) := by unfold Hid; rw [hx]
      have HOF : Hid (freshE (es.take k) es[k] = freshE (es.take k) x) := by unfold Hid; rw [hx]
      clear hx hc hsz HT0 htl hET hgr
      by_cases v1 : vplace x.s x.k = true
      · rw [v1] at HP
        by_cases v2 : opB x.op = true
        · rw [v2] at HI
          by_cases v3 : vvalue x.v = true
          · rw [v3] at HV
            by_cases v4 : x.op = 1
            · by_cases v5 : x.v.toList = []
              · have HVE : Hid (vent x = true) := vent_yes v1 v2 v3 (fun _ => v5)
                have v6 : x.v.toList.isEmpty = true := by simp [v5]
                clear v1 v2 v3
                obtain ⟨xs, xk, xo, xv⟩ := x
                simp only [] at *
                subst v4
                by_cases u1 : freshE (es.take k) ⟨xs, xk, 1, xv⟩ = true
                · have HS : Hid (okE (es.take (k + 1)) = true) := okE_at_yes hk2 HL.out (by rw [HO.out]; exact HVE.out) (by rw [HOF.out]; exact u1)
                  have hix := entIdx_fresh u1
                  rw [hix] at HT
                  clear u1 hix
                  go_wp2_with fail
                  go_quiet ((first | (go_at_call 33; exact quiet_left (HP.out _)) | (go_at_call 34; exact quiet_left (HI.out _)) | (go_at_call 35; exact quiet_left (HV.out _)) | (go_at_call 32; refine quiet_left (HT.out _ ?_); exact ((Grows.refl _).alloc _).drewN _)))
                  go_wp2
                  go_roundw
                  case rel => exact ⟨k + 1, by omega, by go_num, HS, (HG.out.alloc _).drewN _⟩
                  case measure => simp [intOf]; omega
                · have u1' : freshE (es.take k) ⟨xs, xk, 1, xv⟩ = false := by simpa using u1
                  have HZ : Hid (vlayer es = false) := vlayer_no (okE_at_no hk2 (by rw [HOF.out, u1']; simp))
                  obtain ⟨j, hj⟩ := entIdx_old u1'
                  rw [hj] at HT
                  have hj0 : (0 : Int) ≤ (j : Int) := by omega
                  clear u1 u1' hj
                  go_wp2_with fail
                  go_quiet ((first | (go_at_call 33; exact quiet_left (HP.out _)) | (go_at_call 34; exact quiet_left (HI.out _)) | (go_at_call 35; exact quiet_left (HV.out _)) | (go_at_call 32; refine quiet_left (HT.out _ ?_); exact ((Grows.refl _).alloc _).drewN _)))
                  go_wp2
                  go_ret
                  exact ⟨ret_bool HZ.out.symm, (HGR.out.alloc _).drewN _⟩
              · have HVE : Hid (vent x = false) := vent_drop v4 v5
                have v6 : x.v.toList.isEmpty = false := by simp [v5]
                clear v1 v2 v3
                obtain ⟨xs, xk, xo, xv⟩ := x
                simp only [] at *
                subst v4
                have HZ : Hid (vlayer es = false) := vlayer_no (okE_at_no hk2 (by rw [HO.out, HVE.out]; rfl))
                go_wp2_with fail
                go_quiet ((first | (go_at_call 33; exact quiet_left (HP.out _)) | (go_at_call 34; exact quiet_left (HI.out _)) | (go_at_call 35; exact quiet_left (HV.out _)) | (go_at_call 32; refine quiet_left (HT.out _ ?_); exact ((Grows.refl _).alloc _).drewN _)))
                go_wp2
                go_ret
                exact ⟨ret_bool HZ.out.symm, (HGR.out.alloc _).drewN _⟩
            · have HVE : Hid (vent x = true) := vent_yes v1 v2 v3 (fun h => absurd h v4)
              have v7 : decide (x.op = 1) = false := by simp [v4]
              have v8 : (x.op == 1) = false := by simp [v4]
              clear v1 v2 v3
              by_cases u1 : freshE (es.take k) x = true
              · have HS : Hid (okE (es.take (k + 1)) = true) := okE_at_yes hk2 HL.out (by rw [HO.out]; exact HVE.out) (by rw [HOF.out]; exact u1)
                have hix := entIdx_fresh u1
                rw [hix] at HT
                clear u1 hix
                go_wp2_with fail
                go_quiet ((first | (go_at_call 33; exact quiet_left (HP.out _)) | (go_at_call 34; exact quiet_left (HI.out _)) | (go_at_call 35; exact quiet_left (HV.out _)) | (go_at_call 32; refine quiet_left (HT.out _ ?_); exact ((Grows.refl _).alloc _).drewN _)))
                go_wp2
                go_roundw
                case rel => exact ⟨k + 1, by omega, by go_num, HS, (HG.out.alloc _).drewN _⟩
                case measure => simp [intOf]; omega
              · have u1' : freshE (es.take k) x = false := by simpa using u1
                have HZ : Hid (vlayer es = false) := vlayer_no (okE_at_no hk2 (by rw [HOF.out, u1']; simp))
                obtain ⟨j, hj⟩ := entIdx_old u1'
                rw [hj] at HT
                have hj0 : (0 : Int) ≤ (j : Int) := by omega
                clear u1 u1' hj
                go_wp2_with fail
                go_quiet ((first | (go_at_call 33; exact quiet_left (HP.out _)) | (go_at_call 34; exact quiet_left (HI.out _)) | (go_at_call 35; exact quiet_left (HV.out _)) | (go_at_call 32; refine quiet_left (HT.out _ ?_); exact ((Grows.refl _).alloc _).drewN _)))
                go_wp2
                go_ret
                exact ⟨ret_bool HZ.out.symm, (HGR.out.alloc _).drewN _⟩
          · have v3' : vvalue x.v = false := by simpa using v3
            rw [v3'] at HV
            have HVE : Hid (vent x = false) := vent_value v3'
            clear v1 v2 v3 v3'
            have HZ : Hid (vlayer es = false) := vlayer_no (okE_at_no hk2 (by rw [HO.out, HVE.out]; rfl))
            go_wp2_with fail
            go_quiet ((first | (go_at_call 33; exact quiet_left (HP.out _)) | (go_at_call 34; exact quiet_left (HI.out _)) | (go_at_call 35; exact quiet_left (HV.out _)) | (go_at_call 32; refine quiet_left (HT.out _ ?_); exact ((Grows.refl _).alloc _).drewN _)))
            go_wp2
            go_ret
            exact ⟨ret_bool HZ.out.symm, (HGR.out.alloc _).drewN _⟩
        · have v2' : opB x.op = false := by simpa using v2
          rw [v2'] at HI
          have HVE : Hid (vent x = false) := vent_op v2'
          clear v1 v2 v2'
          have HZ : Hid (vlayer es = false) := vlayer_no (okE_at_no hk2 (by rw [HO.out, HVE.out]; rfl))
          go_wp2_with fail
          go_quiet ((first | (go_at_call 33; exact quiet_left (HP.out _)) | (go_at_call 34; exact quiet_left (HI.out _)) | (go_at_call 35; exact quiet_left (HV.out _)) | (go_at_call 32; refine quiet_left (HT.out _ ?_); exact ((Grows.refl _).alloc _).drewN _)))
          go_wp2
          go_ret
          exact ⟨ret_bool HZ.out.symm, (HGR.out.alloc _).drewN _⟩
      · have v1' : vplace x.s x.k = false := by simpa using v1
        rw [v1'] at HP
        have HVE : Hid (vent x = false) := vent_place v1'
        clear v1 v1'
        have HZ : Hid (vlayer es = false) := vlayer_no (okE_at_no hk2 (by rw [HO.out, HVE.out]; rfl))
        go_wp2_with fail
        go_quiet ((first | (go_at_call 33; exact quiet_left (HP.out _)) | (go_at_call 34; exact quiet_left (HI.out _)) | (go_at_call 35; exact quiet_left (HV.out _)) | (go_at_call 32; refine quiet_left (HT.out _ ?_); exact ((Grows.refl _).alloc _).drewN _)))
        go_wp2
        go_ret
        exact ⟨ret_bool HZ.out.symm, (HGR.out.alloc _).drewN _⟩
    · obtain rfl : k = n := by omega
      have HV : Hid (vlayer es = decide (k ≤ 20)) := by
        have h := HL.out
        rw [List.take_of_length_le (by rw [HN.out]; exact Nat.le_refl _)] at h
        unfold Hid vlayer
        rw [h, HN.out]; rfl
      go_wp2
      go_ret
      exact ⟨ret_bool (by rw [HV.out, Bool.eq_iff_iff]; simp; omega), ((Grows.refl _).alloc _).trans HG.out⟩
end Go.Proofs.YtkjoolmhcfajnaaDoor
