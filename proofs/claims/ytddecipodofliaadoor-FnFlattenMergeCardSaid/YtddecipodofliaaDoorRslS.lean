/-
  Stacks of the specification: whether they are valid, and what they tell of a key. Conditions: parts of at most 1048576 bytes.
-/
import Derived.Test.YtddecipodofliaaDoorMapV
import Derived.Test.YtddecipodofliaaDoorRslX
namespace Go.Proofs.YtddecipodofliaaDoor
open Go.RowKit

theorem all_vl {sl : List (List Ent)} {k : Nat} (hk : k < sl.length) : (sl.take (k + 1)).all vlayer = ((sl.take k).all vlayer && vlayer sl[k]) := by
  rw [List.take_succ_eq_append_getElem hk, List.all_append]
  simp
theorem vstack_no {sl : List (List Ent)} {k : Nat} (h : (sl.take k).all vlayer = false) : vstack sl = false := by
  unfold vstack
  rw [Bool.and_eq_false_iff]
  left
  rw [← Bool.not_eq_true, List.all_eq_true] at h ⊢
  exact fun h1 => h (fun x hx => h1 x (List.mem_of_mem_take hx))

set_option maxRecDepth 100000 in
set_option maxHeartbeats 4000000 in
theorem specStack_any (A : Option Addr) (c : Nat) (sl : List (List Ent)) (w : World) (hn : sl.length ≤ 1048576) (hf : ∀ l ∈ sl, EFit l) (hA : StackAt w A sl) :
    Calls Tryd.prog 26 #[.slice A sl.length c] w fun e w' => e = .returned (.bool (vstack sl)) ∧ Grows w w' := by
  have HA := Lib.hid hA
  have HL := Lib.hid (fun (l : List Ent) (hl : l ∈ sl) A' c' w1 (hc : l.length ≤ c') (h : EntsAt w1 A' l) => specLayer_any A' c' l w1 hc (hf l hl) h)
  clear hA hf
  obtain ⟨n, hnn⟩ : ∃ n, sl.length = n := ⟨_, rfl⟩
  rw [hnn] at hn ⊢
  have HN := Lib.hid hnn
  clear hnn
  go_enter Tryd.func26, Tryd.ntmps26
  go_wp2
  go_loopw [3] (fun i wr => ∃ k : Nat, k ≤ n ∧ i = .int .i64 k ∧ Hid ((sl.take k).all vlayer = true) ∧ Hid (Grows w wr)) (fun i _ => n - (intOf i).toNat)
  case atStart => exact ⟨0, Nat.zero_le _, rfl, by unfold Hid; rfl, Grows.refl _⟩
  case round =>
    obtain ⟨k, hk, rfl, HK, HG⟩ := hrel
    by_cases hlt : k < n
    · obtain ⟨b, o, rfl, hb, hc⟩ := HA.out (by rw [HN.out]; omega)
      have hk2 : k < sl.length := by rw [HN.out]; exact hlt
      obtain ⟨A', c', h1, h2, h3⟩ := hc k hk2
      have c0 := (HG.out.cell (p := ⟨b, o + k, none⟩) hb).trans h1
      have HX := Lib.hid (all_vl hk2)
      have HV := Lib.hid (fun w1 (g : Grows wr w1) => HL.out sl[k] (List.getElem_mem hk2) A' c' w1 h2 ((h3.keep HG.out).keep g))
      obtain ⟨x, hx⟩ : ∃ x, sl[k] = x := ⟨_, rfl⟩
      rw [hx] at HX HV c0
      clear hc h1 h2 h3 hx
      by_cases hv : vlayer x = true
      · have HS : Hid ((sl.take (k + 1)).all vlayer = true) := by unfold Hid; rw [HX.out, HK.out, hv]; rfl
        rw [hv] at HV
        clear hv
        go_wp2_with fail
        refine (HV.out _ (Grows.refl _)).mono ?_
        rintro e w1 ⟨rfl, g1⟩
        have HG1 := Lib.hid (HG.out.trans g1)
        clear g1 c0
        go_wp2
        go_roundw
        case rel => exact ⟨k + 1, by omega, by go_num, HS, HG1⟩
        case measure => (simp [intOf]; try omega)
      · have hv' : vlayer x = false := by simpa using hv
        have HZ : Hid (vstack sl = false) := vstack_no (k := k + 1) (by rw [HX.out, hv']; simp)
        rw [hv'] at HV
        clear hv hv'
        go_wp2_with fail
        refine (HV.out _ (Grows.refl _)).mono ?_
        rintro e w1 ⟨rfl, g1⟩
        have HG1 := Lib.hid (HG.out.trans g1)
        clear g1 c0
        go_wp2
        go_ret
        exact ⟨ret_bool HZ.out.symm, HG1.out⟩
    · obtain rfl : k = n := by omega
      have HZ : Hid (vstack sl = decide (k ≤ 5)) := by
        have h := HK.out
        rw [List.take_of_length_le (by rw [HN.out]; exact Nat.le_refl _)] at h
        unfold Hid vstack
        rw [h, HN.out]
        rfl
      go_wp2
      go_ret
      exact ⟨ret_bool (by rw [HZ.out]; first | rfl | (rw [decide_eq_decide]; omega)), HG.out⟩

theorem cur_none {sl : List (List Ent)} {k : Nat} {s key : ByteArray} (hk : k < sl.length) (hd : distE sl[k] = true) (h : sl[k].find? (fun x => x.of s key) = none) :
    foldV (allE (sl.drop k)) noV s key = foldV (allE (sl.drop (k + 1))) noV s key := by
  rw [allE_drop hk, foldV_app, foldV_at s key _ _ hd, h]
theorem cur_some {sl : List (List Ent)} {k : Nat} {s key : ByteArray} (hk : k < sl.length) (hd : distE sl[k] = true) {e : Ent} (h : sl[k].find? (fun x => x.of s key) = some e) :
    foldV (allE (sl.drop k)) noV s key = stepV (foldV (allE (sl.drop (k + 1))) noV s key) e := by
  rw [allE_drop hk, foldV_app, foldV_at s key _ _ hd, h]
theorem cur_size {sl : List (List Ent)} (h : vstack sl = true) (j : Nat) {s key v : ByteArray} (hv : foldV (allE (sl.drop j)) noV s key = some v) : v.size ≤ 4100 := by
  have h1 := vstack_all h
  have h0 : ∀ l ∈ sl.drop j, vlayer l = true := fun l hl => h1 l (List.mem_of_mem_drop hl)
  have h2 := foldV_size _ (fun e he => ent_v40 (allE_vent h0 e he)) s key v hv
  have h3 := allE_len h0
  have h4 := vstack_5 h
  rw [List.length_drop] at h3
  omega

set_option maxRecDepth 100000 in
set_option maxHeartbeats 4000000 in
theorem specResolved_any (A : Option Addr) (c : Nat) (sl : List (List Ent)) (s key : ByteArray) (w : World) (hv : vstack sl = true) (hA : StackAt w A sl) :
    Calls Tryd.prog 47 #[.slice A sl.length c, .string s, .string key] w fun e w' => e = .returned (.tuple #[.string ((toldV sl s key).getD ⟨#[]⟩), .bool (toldV sl s key).isSome]) ∧ Grows w w' := by
  have h5 := vstack_5 hv
  have HVS := Lib.hid hv
  have HA := Lib.hid hA
  have HL := Lib.hid (vstack_all hv)
  clear hA hv
  obtain ⟨n, hnn⟩ : ∃ n, sl.length = n := ⟨_, rfl⟩
  rw [hnn] at h5 ⊢
  have HN := Lib.hid hnn
  clear hnn
  go_enter Tryd.func47, Tryd.ntmps47
  go_wp2
  go_loopw [8, 9, 10] (fun v m i wr => ∃ (j : Nat) (q : Option ByteArray), j ≤ n ∧ i = .int .i64 ((j : Int) - 1) ∧ v = .string (q.getD ⟨#[]⟩) ∧ m = .bool q.isSome ∧ Hid (q = foldV (allE (sl.drop j)) noV s key) ∧ Hid (Grows w wr)) (fun _ _ i _ => (intOf i + 1).toNat)
  case atStart => exact ⟨n, none, Nat.le_refl _, rfl, rfl, rfl, by unfold Hid; rw [← HN.out, List.drop_length]; rfl, Grows.refl _⟩
  case round =>
    obtain ⟨j, q, hj, rfl, rfl, rfl, HQ, HG⟩ := hrel
    by_cases hpos : 0 < j
    · obtain ⟨k, rfl⟩ : ∃ k, j = k + 1 := ⟨j - 1, by omega⟩
      have hz : (((k + 1 : Nat) : Int) - 1) = (k : Int) := by omega
      rw [hz]
      clear hz
      obtain ⟨b, o, rfl, hb, hc⟩ := HA.out (by rw [HN.out]; omega)
      have hk2 : k < sl.length := by rw [HN.out]; omega
      obtain ⟨A', c', h1, h2, h3⟩ := hc k hk2
      have c0 := (HG.out.cell (p := ⟨b, o + k, none⟩) hb).trans h1
      have hvl := HL.out sl[k] (List.getElem_mem hk2)
      have HCN := Lib.hid (fun h => cur_none (s := s) (key := key) hk2 (vlayer_dist hvl) h)
      have HCS := Lib.hid (fun e h => cur_some (s := s) (key := key) (e := e) hk2 (vlayer_dist hvl) h)
      have hsz : ∀ v, q = some v → v.size ≤ 4100 := fun v h => cur_size HVS.out (k + 1) (by rw [← HQ.out]; exact h)
      have h3' := h3.keep HG.out
      obtain ⟨x, hx⟩ : ∃ x, sl[k] = x := ⟨_, rfl⟩
      rw [hx] at HCN HCS c0 h3' hvl
      have h20 := vlayer_20 hvl
      have HE := Lib.hid (fun w1 (g : Grows wr w1) => entryAt_any A' c' x s key w1 (by omega) (h3'.keep g))
      have HVX := Lib.hid (vlayer_vent hvl)
      have HAT := Lib.hid h3'
      obtain ⟨m, hm⟩ : ∃ m, x.length = m := ⟨_, rfl⟩
      have HM := Lib.hid hm
      rw [hm] at c0 HE h20
      clear hc h1 h2 h3 hx hvl h3' hm
      rcases find_idx s key x 0 with ⟨h0, hl0⟩ | ⟨p, hp, h0, hl0⟩
      · have HQ' : Hid (q = foldV (allE (sl.drop k)) noV s key) := by unfold Hid; rw [HCN.out hl0]; exact HQ.out
        have h0' : entIdx x s key = -1 := h0
        rw [h0'] at HE
        clear h0 hl0 h0' hsz
        go_wp2_with fail
        refine (HE.out _ (Grows.refl _)).mono ?_
        rintro e w1 ⟨rfl, rfl⟩
        go_wp2
        go_roundw
        case rel => exact ⟨k, q, by omega, by go_num, rfl, rfl, HQ', HG⟩
        case measure => (simp [intOf]; try omega)
      · have h0' : entIdx x s key = (p : Int) := by unfold entIdx; rw [h0, Nat.zero_add]
        rw [h0'] at HE
        obtain ⟨b2, o2, rfl, hb2, hc2⟩ := HAT.out (by omega)
        have hat := hc2 p hp
        have hve := HVX.out x[p] (List.getElem_mem hp)
        have HCS' := Lib.hid (HCS.out _ hl0)
        obtain ⟨⟨es, ek, eo, ev⟩, he⟩ : ∃ e, x[p] = e := ⟨_, rfl⟩
        rw [he] at hat hve HCS'
        obtain ⟨d0, d1, d2, d3⟩ := hat
        simp only at d0 d1 d2 d3
        have hpm : p < m := by rw [← HM.out]; exact hp
        have hfit := ent_fits' hve
        have hev : ev.size ≤ 40 := hfit.2.2
        have hops : eo = 0 ∨ eo = 1 ∨ eo = 2 := vent_ops3 hve
        clear h0 h0' hl0 hc2 he hve hfit
        have NEW : Hid (∀ z, stepV q ⟨es, ek, eo, ev⟩ = z → z = foldV (allE (sl.drop k)) noV s key) := fun z hz => by rw [HCS'.out, ← HQ.out, hz]
        go_wp2_with fail
        refine (HE.out _ (Grows.refl _)).mono ?_
        rintro e w1 ⟨rfl, rfl⟩
        rcases hops with rfl | rfl | rfl
        · have HQ' : Hid (some ev = foldV (allE (sl.drop k)) noV s key) := NEW.out _ rfl
          have HGn : Hid (Grows w (wr.alloc (.cells #[.string es, .string ek, .int .i64 0, .string ev] 51))) := HG.out.alloc _
          go_wp2
          go_roundw
          case rel => exact ⟨k, some ev, by omega, by go_num, rfl, rfl, HQ', HGn⟩
          case measure => (simp [intOf]; try omega)
        · have HQ' : Hid (none = foldV (allE (sl.drop k)) noV s key) := NEW.out _ rfl
          have HGn : Hid (Grows w (wr.alloc (.cells #[.string es, .string ek, .int .i64 1, .string ev] 51))) := HG.out.alloc _
          go_wp2
          go_roundw
          case rel => exact ⟨k, none, by omega, by go_num, rfl, rfl, HQ', HGn⟩
          case measure => (simp [intOf]; try omega)
        · have HGn : Hid (Grows w (wr.alloc (.cells #[.string es, .string ek, .int .i64 2, .string ev] 51))) := HG.out.alloc _
          rcases q with _ | low
          · have HQ' : Hid (some ev = foldV (allE (sl.drop k)) noV s key) := NEW.out _ rfl
            go_wp2
            go_roundw
            case rel => exact ⟨k, some ev, by omega, by go_num, rfl, rfl, HQ', HGn⟩
            case measure => (simp [intOf]; try omega)
          · have HQ' : Hid (some (low ++ ⟨#[44]⟩ ++ ev) = foldV (allE (sl.drop k)) noV s key) := NEW.out _ rfl
            have hlow : low.size ≤ 4100 := hsz low rfl
            go_wp2
            go_roundw
            case rel => exact ⟨k, some (low ++ ⟨#[44]⟩ ++ ev), by omega, by go_num, rfl, rfl, HQ', HGn⟩
            case measure => (simp [intOf]; try omega)
    · obtain rfl : j = 0 := by omega
      have HR : Hid (toldV sl s key = q) := by unfold Hid toldV; rw [HQ.out, List.drop_zero]
      go_wp2
      refine bodyPost_ret (v := .tuple #[.string (q.getD ⟨#[]⟩), .bool q.isSome]) (by simp [results, Tryd.results47, go_sem]) rfl ?_
      rw [HR.out]
      exact ⟨rfl, HG.out⟩

def tellS (sl : List (List Ent)) (s k : ByteArray) : ByteArray := if vstack sl = true then (toldV sl s k).getD ⟨#[]⟩ else ⟨#[]⟩
def tellB (sl : List (List Ent)) (s k : ByteArray) : Bool := vstack sl && (toldV sl s k).isSome
theorem tell_yes {sl : List (List Ent)} (h : vstack sl = true) (s k : ByteArray) : tellS sl s k = (toldV sl s k).getD ⟨#[]⟩ ∧ tellB sl s k = (toldV sl s k).isSome := by
  unfold tellS tellB
  rw [if_pos h, h]
  exact ⟨rfl, rfl⟩
theorem tell_no {sl : List (List Ent)} (h : vstack sl = false) (s k : ByteArray) : tellS sl s k = ⟨#[]⟩ ∧ tellB sl s k = false := by
  unfold tellS tellB
  rw [h]
  exact ⟨if_neg (by simp), rfl⟩

end Go.Proofs.YtddecipodofliaaDoor
