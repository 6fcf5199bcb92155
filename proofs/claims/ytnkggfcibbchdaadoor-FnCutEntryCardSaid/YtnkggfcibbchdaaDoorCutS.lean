/-
  An entry cut out of a layer: CutEntry of the specification. Conditions: parts of at most 1048576 bytes.
-/
import Derived.Test.YtnkggfcibbchdaaDoorCutE
namespace Go.Proofs.YtnkggfcibbchdaaDoor
open Go.RowKit

theorem EntsAt.drop {w : World} {b o : Nat} {es : List Ent} (h : EntsAt w (some ⟨b, o, none⟩) es) (k : Nat) : EntsAt w (some ⟨b, o + k * 4, none⟩) (es.drop k) := fun h0 => by
  have hl : 0 < es.length := by rw [List.length_drop] at h0; omega
  obtain ⟨b', o', e, hb, hc⟩ := h hl
  injection e with e
  injection e with e1 e2
  subst e1; subst e2
  refine ⟨b, o + k * 4, rfl, hb, fun i hi => ?_⟩
  rw [List.length_drop] at hi
  rw [List.getElem_drop]
  have := hc (k + i) (by omega)
  rwa [show o + (k + i) * 4 = o + k * 4 + i * 4 from by omega] at this
theorem entIdx_no {es : List Ent} {s k : ByteArray} (h : es.any (fun x => x.of s k) = false) : entIdx es s k = -1 := entIdx_none h

set_option maxRecDepth 100000 in
set_option maxHeartbeats 4000000 in
theorem specCut_any (A : Option Addr) (c : Nat) (es : List Ent) (s key : ByteArray) (w : World) (hc0 : es.length ≤ c) (hf : EFit es) (hA : EntsAt w A es) :
    Calls Tryd.prog 21 #[.agg #[.slice A es.length c], .string s, .string key] w (ResEB (cutL es s key) (cutB es s key) w) := by
  have HI := Lib.hid (fun w1 (g : Grows w w1) => specLayer_any A c es w1 hc0 hf (hA.keep g))
  have HE := Lib.hid (fun w1 (g : Grows w w1) => entryAt_any A c es s key w1 hf.1 (hA.keep g))
  have hn := hf.1
  have HA := Lib.hid hA
  by_cases hv : vlayer es = true
  · rw [hv] at HI
    by_cases ha : es.any (fun x => x.of s key) = true
    · have HC := Lib.hid (cutB_yes hv ha)
      obtain ⟨j, hj, hj1, hj2⟩ := cut_from es 0 (vlayer_dist hv) ha
      rw [← hj2] at HC
      have hix : entIdx es s key = (j : Int) := by unfold entIdx; rw [hj1]; omega
      rw [hix] at HE
      obtain ⟨b, o, rfl, hb, hcc⟩ := hA (by omega)
      clear hcc hj1 hj2 hix hv ha hA hf
      have HD : Hid (∀ w1, Grows w w1 → EntsAt w1 (some ⟨b, o + (j + 1) * 4, none⟩) (es.drop (j + 1))) := fun w1 g => (HA.out.keep g).drop (j + 1)
      have HCP := Lib.hid (fun w1 (g : Grows w w1) => specCopyE_any ⟨b, o, none⟩ c (es.take j) w1 (by rw [List.length_take]; omega) ((HA.out.keep g).take j))
      have htl : (es.take j).length = j := by rw [List.length_take]; omega
      have hdl : (es.drop (j + 1)).length = es.length - (j + 1) := List.length_drop
      unfold RetE at HCP
      rw [htl] at HCP
      obtain ⟨j1, hj1⟩ : ∃ j1, j + 1 = j1 := ⟨_, rfl⟩
      rw [hj1] at HD hdl HC
      obtain ⟨T, hT⟩ : ∃ T, es.take j = T := ⟨_, rfl⟩
      rw [hT] at HCP HC htl
      obtain ⟨D, hD⟩ : ∃ D, es.drop j1 = D := ⟨_, rfl⟩
      rw [hD] at HD hdl HC
      obtain ⟨n, hnn⟩ : ∃ n, es.length = n := ⟨_, rfl⟩
      rw [hnn] at HI HE hn hc0 hj hdl ⊢
      have hjn : j1 ≤ n := by omega
      have hjj : (j : Int) + 1 = (j1 : Int) := by omega
      have HDL := Lib.hid hdl
      have HTL := Lib.hid htl
      clear hT hD hnn hdl htl
      by_cases hjc : j1 = c
      · have hnj : n = j1 := by omega
        subst hjc; subst hnj
        go_enter Tryd.func21, Tryd.ntmps21
        go_wp2_with fail
        refine (HE.out _ (((Grows.refl _).alloc _).alloc _)).mono ?_
        rintro e w0 ⟨rfl, rfl⟩
        go_wp2_with fail
        refine (HI.out _ (((Grows.refl _).alloc _).alloc _)).mono ?_
        rintro e w1 ⟨rfl, g1⟩
        have HG0 : Hid (Grows ((w.alloc (lbox (some ⟨b, o, none⟩) n n)).alloc (.cells #[.slice none 0 0] 25)) w1) := g1
        have HG1 : Hid (Grows w w1) := (((Grows.refl _).alloc _).alloc _).trans g1
        have h1 : w1.cell? ⟨w.heap.size + 1, 0, none⟩ = some (.slice none 0 0) := (HG0.out.cell (p := ⟨w.heap.size + 1, 0, none⟩) (by simp)).trans (by simp)
        have h2 : w1.frozen? ⟨w.heap.size + 1, 0, none⟩ = false := (HG0.out.frozen (p := ⟨w.heap.size + 1, 0, none⟩) (by simp)).trans (by simp)
        have hs1 : w.heap.size + 1 < w1.heap.size := Nat.lt_of_lt_of_le (by simp) g1.size
        clear g1
        have hb1 : w1.cell? ⟨w.heap.size, 0, none⟩ = some (.slice (some ⟨b, o, none⟩) n n) := (HG0.out.cell (p := ⟨w.heap.size, 0, none⟩) (by simp; omega)).trans (by simp [lbox])
        have hjle : j ≤ n := by omega
        have hwk2 : IntKind.i64.wrap (n : Int) = (n : Int) := IntWalk.i64_in _ (by omega)
        have hwk : IntKind.i64.wrap ((j : Int) + 1) = (n : Int) := by rw [hjj]; exact IntWalk.i64_in _ (by omega)
        go_wp2_with fail
        refine wp_region_M 10 (CellsAre [(⟨w.heap.size, 0, none⟩, .slice (some ⟨b, o, none⟩) n n)]) (by kernel_rfl) (by kernel_rfl) ⟨hb1, trivial⟩ (fun hB hS => ?_)
        refine wpAnyM_take (i := 0) (v := ?ve0) hB rfl (by kernel_rfl) (fun _ _ _ h => h) (by rfl) ?ye0 hS ?ne0
        case ye0 => (intro w9 hSw; obtain ⟨s1, _⟩ := hSw; go_simp; try with_reducible rfl)
        refine wpAnyM_take (i := 1) (v := ?ve1) hB rfl (by kernel_rfl) (fun _ _ _ h => h) (by rfl) ?ye1 hS ?ne1
        case ye1 => (intro w9 hSw; obtain ⟨s1, _⟩ := hSw; go_simp; try with_reducible rfl)
        refine wpAnyM_take (i := 2) (v := ?ve2) hB rfl (by kernel_rfl) (fun _ _ _ h => h) (by rfl) ?ye2 hS ?ne2
        case ye2 => (intro w9 hSw; obtain ⟨s1, _⟩ := hSw; go_simp; try with_reducible rfl)
        refine wpAnyM_take (i := 3) (v := .slice (some ⟨b, o, none⟩) j n) hB rfl (by kernel_rfl) (fun _ _ _ h => h) (by rfl) ?ye3 hS ?ne3
        case ye3 => (intro w9 _; go_simp; try simp [hjle])
        refine wpAnyM_take (i := 5) (v := ?ve5) hB rfl (by kernel_rfl) (fun _ _ _ h => h) (by rfl) ?ye5 hS ?ne5
        case ye5 => (intro w9 hSw; obtain ⟨s1, _⟩ := hSw; go_simp; try with_reducible rfl)
        refine wpAnyM_take (i := 6) (v := ?ve6) hB rfl (by kernel_rfl) (fun _ _ _ h => h) (by rfl) ?ye6 hS ?ne6
        case ye6 => (intro w9 hSw; obtain ⟨s1, _⟩ := hSw; go_simp; try with_reducible rfl)
        refine wpAnyM_take (i := 7) (v := ?ve7) hB rfl (by kernel_rfl) (fun _ _ _ h => h) (by rfl) ?ye7 hS ?ne7
        case ye7 => (intro w9 hSw; obtain ⟨s1, _⟩ := hSw; go_simp; try with_reducible rfl)
        refine wpAnyM_take (i := 8) (v := .int .i64 (n : Int)) hB rfl (by kernel_rfl) (fun _ _ _ h => h) (by rfl) ?ye8 hS ?ne8
        case ye8 => (intro w9 _; go_simp; first | done | rw [hwk] | rw [hwk2])
        refine wpAnyM_take (i := 9) (v := .slice (some ⟨b, o, none⟩) 0 0) hB rfl (by kernel_rfl) (fun _ _ _ h => h) (by rfl) ?ye9 hS ?ne9
        case ye9 => (intro w9 _; go_simp; try simp)
        refine wpAnyM_one (i := 4) rfl (by kernel_rfl) rfl ?_
        have HS := Lib.hid hS
        clear hS
        go_wp2_with fail
        refine (HCP.out _ HG1.out.drew).mono ?_
        rintro e w2 ⟨v, rfl, hv, g2⟩
        have HG2 : Hid (Grows w w2) := HG1.out.drew.trans g2
        have HG20 : Hid (Grows w1 w2) := (Grows.refl _).drew.trans g2
        have HO2 : Hid (OwnE w2 w1.heap.size v T) := hv
        have HS2 := Lib.hid (CellsAre.keep HS.out g2)
        clear g2 hv HS
        go_wp2_with fail
        refine ⟨HS2.out, ?_⟩
        refine wpAnyM_tail (by kernel_rfl) ?_
        clear HS2 hB hwk hwk2
        go_wp2_with (at_builtin; refine appAllE rfl _ _ rfl w1.heap.size v T rfl HO2.out ⟨b, o, none⟩ 0 0 D rfl (by have := HDL.out; omega) (by have h := HDL.out; rw [List.eq_nil_of_length_eq_zero (by omega : D.length = 0)]; exact EntsAt.nil _ _) (by have := HTL.out; omega) (by omega) HG20.out.size ?_)
        intro v' w3 HO3 HGB
        have HG3 : Hid (Grows w w3) := HG2.out.mark HGB.out (fun k hk => by have h := (HO2.out.lt k hk).1; omega)
        have d1 : w3.cell? ⟨w.heap.size + 1, 0, none⟩ = some (.slice none 0 0) := by
          have hx : Box w1 (w.heap.size + 1) (.slice none 0 0) 25 := by
            have h := (Box.new (w.alloc (lbox (some ⟨b, o, none⟩) n n)) (.slice none 0 0) 25)
            simp only [World.size_alloc] at h
            exact h.keep HG0.out
          exact ((hx.keep HG20.out).far HGB.out (fun e => by have h := (HO2.out.lt _ e).1; omega)).cell
        have d2 : w3.frozen? ⟨w.heap.size + 1, 0, none⟩ = false := by
          have hx : Box w1 (w.heap.size + 1) (.slice none 0 0) 25 := by
            have h := (Box.new (w.alloc (lbox (some ⟨b, o, none⟩) n n)) (.slice none 0 0) 25)
            simp only [World.size_alloc] at h
            exact h.keep HG0.out
          exact ((hx.keep HG20.out).far HGB.out (fun e => by have h := (HO2.out.lt _ e).1; omega)).free
        obtain ⟨A', n', c', hv'⟩ := HO3.out.form3
        subst hv'
        clear HGB h1 h2 hb1
        go_wp2
        refine bodyPost_ret (v := .tuple #[.agg #[.slice A' n' c'], .bool true]) (by simp [results, Tryd.results21, go_sem, d1]) rfl ?_
        rw [HC.out.1, HC.out.2]
        exact ⟨_, rfl, ((HO3.out.setOther (by omega) _).less (by omega)), HG3.out.setCell (by simp) _⟩
      · have hjc2 : j1 < c := by omega
        go_enter Tryd.func21, Tryd.ntmps21
        go_wp2_with fail
        refine (HE.out _ (((Grows.refl _).alloc _).alloc _)).mono ?_
        rintro e w0 ⟨rfl, rfl⟩
        go_wp2_with fail
        refine (HI.out _ (((Grows.refl _).alloc _).alloc _)).mono ?_
        rintro e w1 ⟨rfl, g1⟩
        have HG0 : Hid (Grows ((w.alloc (lbox (some ⟨b, o, none⟩) n c)).alloc (.cells #[.slice none 0 0] 25)) w1) := g1
        have HG1 : Hid (Grows w w1) := (((Grows.refl _).alloc _).alloc _).trans g1
        have h1 : w1.cell? ⟨w.heap.size + 1, 0, none⟩ = some (.slice none 0 0) := (HG0.out.cell (p := ⟨w.heap.size + 1, 0, none⟩) (by simp)).trans (by simp)
        have h2 : w1.frozen? ⟨w.heap.size + 1, 0, none⟩ = false := (HG0.out.frozen (p := ⟨w.heap.size + 1, 0, none⟩) (by simp)).trans (by simp)
        have hs1 : w.heap.size + 1 < w1.heap.size := Nat.lt_of_lt_of_le (by simp) g1.size
        clear g1
        have hb1 : w1.cell? ⟨w.heap.size, 0, none⟩ = some (.slice (some ⟨b, o, none⟩) n c) := (HG0.out.cell (p := ⟨w.heap.size, 0, none⟩) (by simp; omega)).trans (by simp [lbox])
        have hjle : j ≤ c := by omega
        have hwk2 : IntKind.i64.wrap (j1 : Int) = (j1 : Int) := IntWalk.i64_in _ (by omega)
        have hwk : IntKind.i64.wrap ((j : Int) + 1) = (j1 : Int) := by rw [hjj]; exact IntWalk.i64_in _ (by omega)
        go_wp2_with fail
        refine wp_region_M 10 (CellsAre [(⟨w.heap.size, 0, none⟩, .slice (some ⟨b, o, none⟩) n c)]) (by kernel_rfl) (by kernel_rfl) ⟨hb1, trivial⟩ (fun hB hS => ?_)
        refine wpAnyM_take (i := 0) (v := ?vf0) hB rfl (by kernel_rfl) (fun _ _ _ h => h) (by rfl) ?yf0 hS ?nf0
        case yf0 => (intro w9 hSw; obtain ⟨s1, _⟩ := hSw; go_simp; try with_reducible rfl)
        refine wpAnyM_take (i := 1) (v := ?vf1) hB rfl (by kernel_rfl) (fun _ _ _ h => h) (by rfl) ?yf1 hS ?nf1
        case yf1 => (intro w9 hSw; obtain ⟨s1, _⟩ := hSw; go_simp; try with_reducible rfl)
        refine wpAnyM_take (i := 2) (v := ?vf2) hB rfl (by kernel_rfl) (fun _ _ _ h => h) (by rfl) ?yf2 hS ?nf2
        case yf2 => (intro w9 hSw; obtain ⟨s1, _⟩ := hSw; go_simp; try with_reducible rfl)
        refine wpAnyM_take (i := 3) (v := .slice (some ⟨b, o, none⟩) j c) hB rfl (by kernel_rfl) (fun _ _ _ h => h) (by rfl) ?yf3 hS ?nf3
        case yf3 => (intro w9 _; go_simp; try simp [hjle])
        refine wpAnyM_take (i := 5) (v := ?vf5) hB rfl (by kernel_rfl) (fun _ _ _ h => h) (by rfl) ?yf5 hS ?nf5
        case yf5 => (intro w9 hSw; obtain ⟨s1, _⟩ := hSw; go_simp; try with_reducible rfl)
        refine wpAnyM_take (i := 6) (v := ?vf6) hB rfl (by kernel_rfl) (fun _ _ _ h => h) (by rfl) ?yf6 hS ?nf6
        case yf6 => (intro w9 hSw; obtain ⟨s1, _⟩ := hSw; go_simp; try with_reducible rfl)
        refine wpAnyM_take (i := 7) (v := ?vf7) hB rfl (by kernel_rfl) (fun _ _ _ h => h) (by rfl) ?yf7 hS ?nf7
        case yf7 => (intro w9 hSw; obtain ⟨s1, _⟩ := hSw; go_simp; try with_reducible rfl)
        refine wpAnyM_take (i := 8) (v := .int .i64 (j1 : Int)) hB rfl (by kernel_rfl) (fun _ _ _ h => h) (by rfl) ?yf8 hS ?nf8
        case yf8 => (intro w9 _; go_simp; first | done | rw [hwk] | rw [hwk2])
        refine wpAnyM_take (i := 9) (v := .slice (some ⟨b, o + j1 * 4, none⟩) (n - j1) (c - j1)) hB rfl (by kernel_rfl) (fun _ _ _ h => h) (by rfl) ?yf9 hS ?nf9
        case yf9 => (intro w9 _; go_simp; try simp [Ne.symm hjc])
        refine wpAnyM_one (i := 4) rfl (by kernel_rfl) rfl ?_
        have HS := Lib.hid hS
        clear hS
        go_wp2_with fail
        refine (HCP.out _ HG1.out.drew).mono ?_
        rintro e w2 ⟨v, rfl, hv, g2⟩
        have HG2 : Hid (Grows w w2) := HG1.out.drew.trans g2
        have HG20 : Hid (Grows w1 w2) := (Grows.refl _).drew.trans g2
        have HO2 : Hid (OwnE w2 w1.heap.size v T) := hv
        have HS2 := Lib.hid (CellsAre.keep HS.out g2)
        clear g2 hv HS
        go_wp2_with fail
        refine ⟨HS2.out, ?_⟩
        refine wpAnyM_tail (by kernel_rfl) ?_
        clear HS2 hB hwk hwk2
        go_wp2_with (at_builtin; refine appAllE rfl _ _ rfl w1.heap.size v T rfl HO2.out ⟨b, o + j1 * 4, none⟩ (n - j1) (c - j1) D rfl HDL.out (HD.out _ HG2.out) (by have := HTL.out; omega) (by omega) HG20.out.size ?_)
        intro v' w3 HO3 HGB
        have HG3 : Hid (Grows w w3) := HG2.out.mark HGB.out (fun k hk => by have h := (HO2.out.lt k hk).1; omega)
        have d1 : w3.cell? ⟨w.heap.size + 1, 0, none⟩ = some (.slice none 0 0) := by
          have hx : Box w1 (w.heap.size + 1) (.slice none 0 0) 25 := by
            have h := (Box.new (w.alloc (lbox (some ⟨b, o, none⟩) n c)) (.slice none 0 0) 25)
            simp only [World.size_alloc] at h
            exact h.keep HG0.out
          exact ((hx.keep HG20.out).far HGB.out (fun e => by have h := (HO2.out.lt _ e).1; omega)).cell
        have d2 : w3.frozen? ⟨w.heap.size + 1, 0, none⟩ = false := by
          have hx : Box w1 (w.heap.size + 1) (.slice none 0 0) 25 := by
            have h := (Box.new (w.alloc (lbox (some ⟨b, o, none⟩) n c)) (.slice none 0 0) 25)
            simp only [World.size_alloc] at h
            exact h.keep HG0.out
          exact ((hx.keep HG20.out).far HGB.out (fun e => by have h := (HO2.out.lt _ e).1; omega)).free
        obtain ⟨A', n', c', hv'⟩ := HO3.out.form3
        subst hv'
        clear HGB h1 h2 hb1
        go_wp2
        refine bodyPost_ret (v := .tuple #[.agg #[.slice A' n' c'], .bool true]) (by simp [results, Tryd.results21, go_sem, d1]) rfl ?_
        rw [HC.out.1, HC.out.2]
        exact ⟨_, rfl, ((HO3.out.setOther (by omega) _).less (by omega)), HG3.out.setCell (by simp) _⟩
    · have ha' : es.any (fun x => x.of s key) = false := by simpa using ha
      have HC := Lib.hid (cutB_none ha')
      rw [entIdx_no ha'] at HE
      clear hv ha ha' hA hf hc0 HA
      go_enter Tryd.func21, Tryd.ntmps21
      go_wp2_with fail
      refine (HE.out _ (((Grows.refl _).alloc _).alloc _)).mono ?_
      rintro e w0 ⟨rfl, rfl⟩
      go_wp2_with fail
      refine (HI.out _ (((Grows.refl _).alloc _).alloc _)).mono ?_
      rintro e w1 ⟨rfl, g1⟩
      have HG0 : Hid (Grows ((w.alloc (lbox A es.length c)).alloc (.cells #[.slice none 0 0] 25)) w1) := g1
      have HG1 : Hid (Grows w w1) := (((Grows.refl _).alloc _).alloc _).trans g1
      have h1 : w1.cell? ⟨w.heap.size + 1, 0, none⟩ = some (.slice none 0 0) := (HG0.out.cell (p := ⟨w.heap.size + 1, 0, none⟩) (by simp)).trans (by simp)
      have h2 : w1.frozen? ⟨w.heap.size + 1, 0, none⟩ = false := (HG0.out.frozen (p := ⟨w.heap.size + 1, 0, none⟩) (by simp)).trans (by simp)
      have hs1 : w.heap.size + 1 < w1.heap.size := Nat.lt_of_lt_of_le (by simp) g1.size
      clear g1
      go_wp2
      refine bodyPost_ret (v := .tuple #[.agg #[.slice none 0 0], .bool false]) (by simp [results, Tryd.results21, go_sem, h1]) rfl ?_
      rw [HC.out.1, HC.out.2]
      exact ⟨_, rfl, OwnE.nil _ _, HG1.out.setCell (by simp) _⟩
  · have hv' : vlayer es = false := by simpa using hv
    have HC := Lib.hid (cutB_no (s := s) (k := key) hv')
    rw [hv'] at HI
    obtain ⟨ix, hix⟩ : ∃ ix, entIdx es s key = ix := ⟨_, rfl⟩
    rw [hix] at HE
    clear hv hv' hA hf hc0 HA hix
    go_enter Tryd.func21, Tryd.ntmps21
    go_wp2_with fail
    refine (HE.out _ (((Grows.refl _).alloc _).alloc _)).mono ?_
    rintro e w0 ⟨rfl, rfl⟩
    go_wp2_with fail
    refine (HI.out _ (((Grows.refl _).alloc _).alloc _)).mono ?_
    rintro e w1 ⟨rfl, g1⟩
    have HG0 : Hid (Grows ((w.alloc (lbox A es.length c)).alloc (.cells #[.slice none 0 0] 25)) w1) := g1
    have HG1 : Hid (Grows w w1) := (((Grows.refl _).alloc _).alloc _).trans g1
    have h1 : w1.cell? ⟨w.heap.size + 1, 0, none⟩ = some (.slice none 0 0) := (HG0.out.cell (p := ⟨w.heap.size + 1, 0, none⟩) (by simp)).trans (by simp)
    have h2 : w1.frozen? ⟨w.heap.size + 1, 0, none⟩ = false := (HG0.out.frozen (p := ⟨w.heap.size + 1, 0, none⟩) (by simp)).trans (by simp)
    have hs1 : w.heap.size + 1 < w1.heap.size := Nat.lt_of_lt_of_le (by simp) g1.size
    clear g1
    go_wp2
    refine bodyPost_ret (v := .tuple #[.agg #[.slice none 0 0], .bool false]) (by simp [results, Tryd.results21, go_sem, h1]) rfl ?_
    rw [HC.out.1, HC.out.2]
    exact ⟨_, rfl, OwnE.nil _ _, HG1.out.setCell (by simp) _⟩
end Go.Proofs.YtnkggfcibbchdaaDoor
