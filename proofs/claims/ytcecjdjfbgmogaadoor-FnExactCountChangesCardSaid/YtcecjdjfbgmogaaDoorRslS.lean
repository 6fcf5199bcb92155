/-
  Stacks of the specification: whether they are valid, and what they tell of a key. Conditions: parts of at most 1048576 bytes.
-/
import Derived.Test.YtcecjdjfbgmogaaDoorMapV
import Derived.Test.YtcecjdjfbgmogaaDoorRslX
namespace Go.Proofs.YtcecjdjfbgmogaaDoor
open Go.RowKit

theorem all_vl {sl : List (List Ent)} {k : Nat} (hk : k < sl.length) : (sl.take (k + 1)).all vlayer = ((sl.take k).all vlayer && vlayer sl[k]) := by
  rw [List.take_succ_eq_append_getElem hk, List.all_append]
  simp
theorem vstack_no {sl : List (List Ent)} {k : Nat} (h : (sl.take k).all vlayer = false) : vstack sl = false := by
  unfold vstack
  rw [Bool.and_eq_false_iff]
  left
  rw [← Bool.not_eq_true, List.all_eq_true] at h ⊢
  exact fun h1 => h (fun x hx => h1 x (List.mem_of_mem_take hx))

set_option maxRecDepth 100000 in
set_option maxHeartbeats 4000000 in
theorem specStack_any (A : Option Addr) (c : Nat) (sl : List (List Ent)) (w : World) (hn : sl.length ≤ 1048576) (hf : ∀ l ∈ sl, EFit l) (hA : StackAt w A sl) :
    Calls Tryd.prog 57 #[.slice A sl.length c] w fun e w' => e = .returned (.bool (vstack sl)) ∧ Grows w w' := by
  have HA := Lib.hid hA
  have HL := Lib.hid (fun (l : List Ent) (hl : l ∈ sl) A' c' w1 (hc : l.length ≤ c') (h : EntsAt w1 A' l) => specLayer_any A' c' l w1 hc (hf l hl) h)
  clear hA hf
  obtain ⟨n, hnn⟩ : ∃ n, sl.length = n := ⟨_, rfl⟩
  rw [hnn] at hn ⊢
  have HN := Lib.hid hnn
  clear hnn
  go_enter Tryd.func57, Tryd.ntmps57
  go_wp2
  go_loopw [3] (fun i wr => ∃ k : Nat, k ≤ n ∧ i = .int .i64 k ∧ Hid ((sl.take k).all vlayer = true) ∧ Hid (Grows w wr)) (fun i _ => n - (intOf i).toNat)
  case atStart => exact ⟨0, Nat.zero_le _, rfl, by unfold Hid; rfl, Grows.refl _⟩
  case round =>
    obtain ⟨k, hk, rfl, HK, HG⟩ := hrel
    by_cases hlt : k < n
    · obtain ⟨b, o, rfl, hb, hc⟩ := HA.out (by rw [HN.out]; omega)
      have hk2 : k < sl.length := by rw [HN.out]; exact hlt
      obtain ⟨A', c', h1, h2, h3⟩ := hc k hk2
      have c0 := (HG.out.cell (p := ⟨b, o + k, none⟩) hb).trans h1
      have HX := Lib.hid (all_vl hk2)
      have HV := Lib.hid (fun w1 (g : Grows wr w1) => HL.out sl[k] (List.getElem_mem hk2) A' c' w1 h2 ((h3.keep HG.out).keep g))
      obtain ⟨x, hx⟩ : ∃ x, sl[k] = x := ⟨_, rfl⟩
      rw [hx] at HX HV c0
      clear hc h1 h2 h3 hx
      by_cases hv : vlayer x = true
      · have HS : Hid ((sl.take (k + 1)).all vlayer = true) := by unfold Hid; rw [HX.out, HK.out, hv]; rfl
        rw [hv] at HV
        clear hv
        go_wp2_with fail
        refine (HV.out _ (Grows.refl _)).mono ?_
        rintro e w1 ⟨rfl, g1⟩
        have HG1 := Lib.hid (HG.out.trans g1)
        clear g1 c0
        go_wp2
        go_roundw
        case rel => exact ⟨k + 1, by omega, by go_num, HS, HG1⟩
        case measure => (simp [intOf]; try omega)
      · have hv' : vlayer x = false := by simpa using hv
        have HZ : Hid (vstack sl = false) := vstack_no (k := k + 1) (by rw [HX.out, hv']; simp)
        rw [hv'] at HV
        clear hv hv'
        go_wp2_with fail
        refine (HV.out _ (Grows.refl _)).mono ?_
        rintro e w1 ⟨rfl, g1⟩
        have HG1 := Lib.hid (HG.out.trans g1)
        clear g1 c0
        go_wp2
        go_ret
        exact ⟨ret_bool HZ.out.symm, HG1.out⟩
    · obtain rfl : k = n := by omega
      have HZ : Hid (vstack sl = decide (k ≤ 5)) := by
        have h := HK.out
        rw [List.take_of_length_le (by rw [HN.out]; exact Nat.le_refl _)] at h
        unfold Hid vstack
        rw [h, HN.out]
        rfl
      go_wp2
      go_ret
      exact ⟨ret_bool (by rw [HZ.out]; first | rfl | (rw [decide_eq_decide]; omega)), HG.out⟩

theorem cur_none {sl : List (List Ent)} {k : Nat} {s key : ByteArray} (hk : k < sl.length) (hd : distE sl[k] = true) (h : sl[k].find? (fun x => x.of s key) = none) :
    foldV (allE (sl.drop k)) noV s key = foldV (allE (sl.drop (k + 1))) noV s key := by
  rw [allE_drop hk, foldV_app, foldV_at s key _ _ hd, h]
theorem cur_some {sl : List (List Ent)} {k : Nat} {s key : ByteArray} (hk : k < sl.length) (hd : distE sl[k] = true) {e : Ent} (h : sl[k].find? (fun x => x.of s key) = some e) :
    foldV (allE (sl.drop k)) noV s key = stepV (foldV (allE (sl.drop (k + 1))) noV s key) e := by
  rw [allE_drop hk, foldV_app, foldV_at s key _ _ hd, h]
theorem cur_size {sl : List (List Ent)} (h : vstack sl = true) (j : Nat) {s key v : ByteArray} (hv : foldV (allE (sl.drop j)) noV s key = some v) : v.size ≤ 4100 := by
  have h1 := vstack_all h
  have h0 : ∀ l ∈ sl.drop j, vlayer l = true := fun l hl => h1 l (List.mem_of_mem_drop hl)
  have h2 := foldV_size _ (fun e he => ent_v40 (allE_vent h0 e he)) s key v hv
  have h3 := allE_len h0
  have h4 := vstack_5 h
  rw [List.length_drop] at h3
  omega

def tellS (sl : List (List Ent)) (s k : ByteArray) : ByteArray := if vstack sl = true then (toldV sl s k).getD ⟨#[]⟩ else ⟨#[]⟩
def tellB (sl : List (List Ent)) (s k : ByteArray) : Bool := vstack sl && (toldV sl s k).isSome
theorem tell_yes {sl : List (List Ent)} (h : vstack sl = true) (s k : ByteArray) : tellS sl s k = (toldV sl s k).getD ⟨#[]⟩ ∧ tellB sl s k = (toldV sl s k).isSome := by
  unfold tellS tellB
  rw [if_pos h, h]
  exact ⟨rfl, rfl⟩
theorem tell_no {sl : List (List Ent)} (h : vstack sl = false) (s k : ByteArray) : tellS sl s k = ⟨#[]⟩ ∧ tellB sl s k = false := by
  unfold tellS tellB
  rw [h]
  exact ⟨if_neg (by simp), rfl⟩

end Go.Proofs.YtcecjdjfbgmogaaDoor
