/- Texts of one proof laid together. No condition but those that each theorem names. -/
import Derived.Test.YtjendlfophdfeaaDoorLiftS
import Derived.Test.YtjendlfophdfeaaDoorFcC
import Derived.Test.YtjendlfophdfeaaDoorFcW
import Derived.Deep.RegionHeld3
import Derived.Outline
import Derived.Deep.Cut
import Derived.Test.YtjendlfophdfeaaDoorFcS
import Derived.Test.YtjendlfophdfeaaDoorPfE
import Derived.Test.YtjendlfophdfeaaDoorPfL
import Derived.Test.YtjendlfophdfeaaDoorFcM
import Derived.Test.YtjendlfophdfeaaDoorFcF
import Derived.Test.YtjendlfophdfeaaDoorFcK
import Derived.Deep.QuietTactic
import Derived.BigQuiet
import Derived.StillTailTactics
import Derived.LaidEql
import Derived.Laws.EntriesVeiled
import Derived.Deep.DeepCutAuto
import Derived.Test.YtjendlfophdfeaaDoorWdC
import Derived.Test.YtjendlfophdfeaaDoorSsP
import Derived.Deep.RegionLaw
import Derived.Lib.SliceRun
import Derived.Test.YtjendlfophdfeaaDoorFcN
import Derived.Test.YtjendlfophdfeaaDoorFcP
import Derived.Test.YtjendlfophdfeaaDoorFcT
import Derived.OrdersHeld
import Derived.StillTail
import Derived.OrdersIn
import Derived.TacticsIn
import Derived.Test.YtjendlfophdfeaaDoorFcD
namespace Go.Proofs.YtjendlfophdfeaaDoor
open Go.ChangeShapes Go.WideShapes Go.ChangeAt Go.RowKit Go.Joins Go.Deep
namespace Fc

theorem rows_choice {P : Nat → Rw → Prop} : ∀ n, (∀ i, i < n → ∃ r, P i r) → ∃ rs : List Rw, rs.length = n ∧ ∀ i, i < n → P i (rs.getD i nilRw)
  | 0, _ => ⟨[], rfl, fun i h => by omega⟩
  | n + 1, h => by
    obtain ⟨rs, hl, hr⟩ := rows_choice n (fun i hi => h i (by omega))
    obtain ⟨r, hr'⟩ := h n (by omega)
    refine ⟨rs ++ [r], by simp [hl], fun i hi => ?_⟩
    by_cases e : i = n
    · subst e
      have : (rs ++ [r]).getD i nilRw = r := by rw [List.getD_eq_getElem?_getD, List.getElem?_append_right (by omega), hl]; simp
      rw [this]; exact hr'
    · have : (rs ++ [r]).getD i nilRw = rs.getD i nilRw := by rw [List.getD_eq_getElem?_getD, List.getElem?_append_left (by omega), ← List.getD_eq_getElem?_getD]
      rw [this]; exact hr i (by omega)
theorem pairs_choice {P : Nat → Int → Int → Prop} : ∀ n, (∀ i, i < n → ∃ x y, P i x y) → ∃ zs : List Int, zs.length = n * 2 ∧ ∀ i, i < n → P i (zs.getD (i * 2) 0) (zs.getD (i * 2 + 1) 0)
  | 0, _ => ⟨[], rfl, fun i h => by omega⟩
  | n + 1, h => by
    obtain ⟨zs, hl, hr⟩ := pairs_choice n (fun i hi => h i (by omega))
    obtain ⟨x, y, hxy⟩ := h n (by omega)
    refine ⟨zs ++ [x, y], by simp [hl]; omega, fun i hi => ?_⟩
    by_cases e : i = n
    · subst e
      have e1 : (zs ++ [x, y]).getD (i * 2) 0 = x := by rw [List.getD_eq_getElem?_getD, List.getElem?_append_right (by omega), hl]; simp
      have e2 : (zs ++ [x, y]).getD (i * 2 + 1) 0 = y := by rw [List.getD_eq_getElem?_getD, List.getElem?_append_right (by omega), hl, Nat.add_sub_cancel_left]; rfl
      rw [e1, e2]; exact hxy
    · have e1 : (zs ++ [x, y]).getD (i * 2) 0 = zs.getD (i * 2) 0 := by rw [List.getD_eq_getElem?_getD, List.getElem?_append_left (by omega), ← List.getD_eq_getElem?_getD]
      have e2 : (zs ++ [x, y]).getD (i * 2 + 1) 0 = zs.getD (i * 2 + 1) 0 := by rw [List.getD_eq_getElem?_getD, List.getElem?_append_left (by omega), ← List.getD_eq_getElem?_getD]
      rw [e1, e2]; exact hr i (by omega)

theorem add_add (a : Addr) (i j : Nat) : (a.add i).add j = a.add (i + j) := by
  obtain ⟨b, off, spot⟩ := a
  unfold Addr.add
  repeat' split
  all_goals first | (simp_all; done) | (simp_all; omega) | (simp_all [Nat.add_assoc])

set_option maxRecDepth 100000 in
theorem faces_of {H : Type} {enc : TypeId × Value → H} {W : World} {base k : Nat} {V : Value} {x : DataW H × List MemPlace}
    (h : DataW.trod enc Tryd.prog W base (fun _ => true) true k 175 [V] = some x) :
    ∃ A n c zs, V = .slice A n c ∧ Ints W W.heap.size A (n * 2) zs ∧ n ≤ c ∧ c ≤ maxLen := by
  rcases open_slice (e := 219) Tryd.underlying175 h with ⟨hcs, _⟩ | ⟨a, len, cap, m, n, D, Pl, hcs, _, hl, hm, hmm, _, hi⟩
  · simp at hcs
    subst hcs
    exact ⟨none, 0, 0, [], rfl, ⟨rfl, fun h => by omega⟩, Nat.le_refl _, Nat.zero_le _⟩
  · simp at hcs
    subst hcs
    have hmm' : m = cap := by simpa using hmm
    subst hmm'
    have hC : Tryd.prog.cellsOf 219 = 2 := by kernel_rfl
    rw [hC] at hi
    obtain ⟨zs, hlen, hz⟩ := pairs_choice (P := fun i x y => W.cell? (a.add (i * 2)) = some (.int .i64 x) ∧ W.cell? (a.add (i * 2 + 1)) = some (.int .i64 y)) len (fun i hi' => by
      obtain ⟨cs', hc, ht⟩ := hi i (by omega)
      obtain ⟨y0, y1, n', _, _, h0, h1⟩ := trod_struct2 Tryd.underlying219 ht
      obtain ⟨_, hcl, hce⟩ := World.cells?_some hc
      match cs', hcl with
      | [v0, v1], _ =>
        obtain ⟨x, e0, _, _⟩ := DataW.trod_int Tryd.underlying2 (by simpa using h0)
        obtain ⟨y, e1, _, _⟩ := DataW.trod_int Tryd.underlying2 (by simpa using h1)
        have k0 : Tryd.prog.cellsOf 2 = 1 := by kernel_rfl
        rw [k0] at e0 e1
        simp at e0 e1
        subst e0
        subst e1
        refine ⟨x, y, ?_, ?_⟩
        · have := hce 0 (by omega)
          rw [add_add] at this
          simpa using this
        · have := hce 1 (by omega)
          rw [add_add] at this
          simpa using this)
    refine ⟨some a, len, m, zs, rfl, ⟨hlen, fun h0 => ?_⟩, by omega, by omega⟩
    obtain ⟨b, off, spot⟩ := a
    have hc := (hz 0 (by omega)).1
    have hspot : spot = none := by simpa [Addr.add] using World.cell?_spot hc
    subst hspot
    have hlt := World.block_lt_of_cell? W _ hc
    refine ⟨b, off, rfl, by simpa [Addr.add] using hlt, fun j hj => ?_⟩
    rcases (show j % 2 = 0 ∨ j % 2 = 1 from by omega) with e | e
    · have h1 := (hz (j / 2) (by omega)).1
      rw [addr_add] at h1
      rwa [show j / 2 * 2 = j from by omega] at h1
    · have h1 := (hz (j / 2) (by omega)).2
      rw [addr_add] at h1
      rwa [show j / 2 * 2 + 1 = j from by omega] at h1

set_option maxRecDepth 100000 in
theorem fss_of {H : Type} {enc : TypeId × Value → H} {W : World} {base k : Nat} {V : Value} {x : DataW H × List MemPlace}
    (h : DataW.trod enc Tryd.prog W base (fun _ => true) true k 22 [V] = some x) :
    ∃ A c rs, V = .slice A rs.length c ∧ RdS W W.heap.size A rs ∧ rs.length ≤ maxLen := by
  rcases open_slice1 (e := 175) Tryd.underlying22 (by kernel_rfl) h with ⟨hcs, _⟩ | ⟨a, len, cap, m, n, Vv, D, Pl, hcs, _, hl, hm, hmm, _, hi⟩
  · simp at hcs
    subst hcs
    exact ⟨none, 0, [], rfl, ⟨fun r hr => by simp at hr, fun h => by simp at h⟩, by simp⟩
  · simp at hcs
    subst hcs
    have hmm' : m = cap := by simpa using hmm
    subst hmm'
    obtain ⟨rs, hlen, hrs⟩ := rows_choice (P := fun i r => Vv i = r.sv ∧ r.Rd W W.heap.size) len (fun i hi' => by
      obtain ⟨hc, ht⟩ := hi i (by omega)
      obtain ⟨A, n', c, zs, e, h1, h2, h3⟩ := faces_of ht
      have h0 := h1.1
      refine ⟨⟨A, c, zs⟩, by rw [e]; simp [Rw.sv, h0], ?_, h3, ?_⟩
      · dsimp only; omega
      · dsimp only; rw [h0]; exact h1)
    refine ⟨some a, m, rs, by rw [hlen], ⟨fun r hr => ?_, fun h0 => ?_⟩, by omega⟩
    · obtain ⟨i, hi', rfl⟩ := List.mem_iff_getElem.1 hr
      have := (hrs i (by omega)).2
      rwa [List.getD_eq_getElem?_getD, List.getElem?_eq_getElem hi'] at this
    · obtain ⟨b, off, spot⟩ := a
      have hc := (hi 0 (by omega)).1
      have hspot : spot = none := by simpa [Addr.add] using World.cell?_spot hc
      subst hspot
      have hlt := World.block_lt_of_cell? W _ hc
      refine ⟨b, off, rfl, by simpa [Addr.add] using hlt, fun j hj => ?_⟩
      have h1 := (hi j (by omega)).1
      rw [addr_add] at h1
      rw [h1, (hrs j (by omega)).1]

set_option maxRecDepth 100000 in
theorem openTri {H : Type} {enc : TypeId × Value → H} {W : World} {base : Nat} {v : Value} {d : DataW H} {p : List MemPlace} {b0 : Nat}
    (hv : Value.okWide Tryd.prog W .any b0 24 v) (h : DataW.Trod enc Tryd.prog W base (fun _ => true) true 24 v d p) :
    ∃ A c rs, v = .agg #[.slice A rs.length c] ∧ RdS W W.heap.size A rs ∧ rs.length ≤ maxLen := by
  obtain ⟨cs, rfl, hsz⟩ := okWide_struct Tryd.underlying24 hv
  have hC : Tryd.prog.cellsOf 24 = 1 := by kernel_rfl
  rw [hC] at hsz
  obtain ⟨c0, rfl⟩ : ∃ c0, cs = #[c0] := by
    obtain ⟨l⟩ := cs
    match l, hsz with
    | [c0], _ => exact ⟨c0, rfl⟩
  obtain ⟨fuel, hf⟩ := h
  obtain ⟨y0, n, _, _, h0⟩ := trod_struct1 Tryd.underlying24 hf
  have k0 : Tryd.prog.cellsOf 22 = 1 := by kernel_rfl
  rw [k0] at h0
  obtain ⟨A, c, rs, e, h1, h2⟩ := fss_of (V := c0) (by simpa [Value.cells] using h0)
  subst e
  exact ⟨A, c, rs, rfl, h1, h2⟩

end Fc
end Go.Proofs.YtjendlfophdfeaaDoor

namespace Go.Proofs.YtjendlfophdfeaaDoor
open Go Go.ChangeShapes Go.WideShapes Go.ChangeAt Go.RowKit

/-- A box of one cell. -/
structure Box1 (w : World) (b : Nat) (x : Value) : Prop where
  c : w.cell? ⟨b, 0, none⟩ = some x
theorem Box1.below {w w' : World} {b : Nat} {x : Value} {B : Nat} (h : Box1 w b x) (hb : Below B w w') (hg : b < B) : Box1 w' b x := ⟨(hb.cell (p := ⟨b, 0, none⟩) hg).trans h.c⟩
theorem Box1.new (w : World) (t : TypeId) (x : Value) : Box1 (w.alloc (.cells #[x] t)) w.heap.size x := ⟨by simp [go_sem]⟩
theorem Box1.kept {w w' : World} {lo hi b : Nat} {x : Value} (h : Box1 w b x) (hk : Kept lo hi w w') (hg : b < w.heap.size) (hn : ¬ (lo ≤ b ∧ b < hi)) : Box1 w' b x := ⟨(World.cell?_of_block (a := ⟨b, 0, none⟩) (hk.block b hg hn)).trans h.c⟩
theorem Box1.set_ {W : World} {b : Nat} {x u : Value} (h : Box1 W b x) : Box1 (W.setCell ⟨b, 0, none⟩ u) b u := ⟨by simp [h.c, go_sem]⟩

/-- An answer of at most eight tetrahedra. -/
def Fc.Szd (T : List (List Int)) : Prop := T.length ≤ 8 ∧ ∀ z ∈ T, z.length ≤ 8
theorem Fc.Szd.nil : Fc.Szd [] := ⟨by simp, by simp⟩
theorem Fc.Szd.len {T : List (List Int)} {rs : List Fc.Rw} (h : Fc.Szd T) (hv : Fc.vals rs = T) : rs.length ≤ 1048576 := by have := h.1; rw [← hv, Fc.vals_len] at this; omega
theorem Fc.Szd.row0 {T : List (List Int)} {rs : List Fc.Rw} (h : Fc.Szd T) (hv : Fc.vals rs = T) : ∀ r ∈ rs, r.zs.length ≤ 8 := fun r hr => h.2 _ (by rw [← hv]; exact List.mem_map_of_mem hr)
theorem Fc.Szd.row {T : List (List Int)} {rs : List Fc.Rw} (h : Fc.Szd T) (hv : Fc.vals rs = T) : ∀ r ∈ rs, r.zs.length / 2 ≤ 1048576 := fun r hr => by have := h.row0 hv r hr; omega
theorem Fc.tot_le8 : ∀ rs : List Fc.Rw, (∀ r ∈ rs, r.zs.length ≤ 8) → Fc.tot rs ≤ 8 * rs.length
  | [], _ => by simp [Fc.tot]
  | r :: rs, h => by
    have h1 := h r (List.mem_cons_self ..)
    have h2 := tot_le8 rs fun q hq => h q (List.mem_cons_of_mem _ hq)
    simp only [Fc.tot, List.length_cons]
    omega
theorem Fc.Szd.tot {T : List (List Int)} {rs : List Fc.Rw} (h : Fc.Szd T) (hv : Fc.vals rs = T) : rs.length + Fc.tot rs ≤ 2097152 := by
  have h1 := Fc.tot_le8 rs (h.row0 hv)
  have h2 := h.1
  rw [← hv, Fc.vals_len] at h2
  omega

theorem Tr.Four.mem {T : List (List Int)} (h : Tr.Four T) {z : List Int} (hz : z ∈ T) : z.length = 8 := by
  obtain ⟨i, hi, rfl⟩ := List.getElem_of_mem hz
  have := h i hi
  rwa [List.getD_eq_getElem?_getD, List.getElem?_eq_getElem hi] at this
theorem Tr.Is.szd {T : List (List Int)} (h : Tr.Is T) : Fc.Szd T := ⟨h.1, fun _ hz => Nat.le_of_eq (Tr.Four.mem h.2.1 hz)⟩

end Go.Proofs.YtjendlfophdfeaaDoor

namespace Go.Proofs.YtjendlfophdfeaaDoor
open Go Go.ChangeShapes Go.WideShapes Go.ChangeAt Go.RowKit

set_option maxRecDepth 100000 in
set_option maxHeartbeats 16000000 in
theorem exactClassCounts (Aa : Option Addr) (ca : Nat) (rsa : List Fc.Rw) (ll : List Int) (w : World) (ha : Fc.RdS w w.heap.size Aa rsa) (hna : rsa.length + Fc.cnt rsa ≤ 1048576) (hz : ll.length ≤ 1048576)
    (hs : ∀ (W : World) (A : Option Addr) (c : Nat) (qs : List Fc.Rw), Fc.RdS W W.heap.size A qs → Fc.vals qs = Fc.vals rsa → Below w.heap.size w W → Calls Tryd.prog 44 #[.agg #[.slice A qs.length c]] W (ResLM W ll))
    (hi : ∀ (W : World) (A : Option Addr) (c : Nat) (qs : List Fc.Rw), Fc.RdS W W.heap.size A qs → Fc.vals qs = Fc.vals rsa → Below w.heap.size w W → Calls Tryd.prog 45 #[.agg #[.slice A qs.length c]] W (ResLM W ll)) :
    Calls Tryd.prog 8 #[.agg #[.slice Aa rsa.length ca]] w fun e w' => e = .returned (.bool true) ∧ Below w.heap.size w w' := by
  have HS := Lib.hid hs
  have HI := Lib.hid hi
  clear hs hi
  have HB := Lib.hid (Below.refl w.heap.size w)
  have Ha := Lib.hid ha
  have hzl := hz
  clear ha hz
  have hnl : rsa.length ≤ 1048576 := by omega
  have hml : rsa.length ≤ maxLen := Nat.le_trans hnl (by unfold maxLen; omega)
  have ROW := Lib.hid (show ∀ r ∈ rsa, r.zs.length / 2 ≤ 1048576 from fun r hr => by have := Fc.row_le_cnt hr; omega)
  have EV := Lib.hid (show ∀ r ∈ rsa, r.zs.length % 2 = 0 from fun r hr => (Ha.out.1 r hr).le.2)
  have TT := Lib.hid (show Fc.tot rsa = 2 * Fc.cnt rsa from Fc.tot_cnt EV.out)
  have tl0 : decide ((1048576 : Int) - (rsa.length : Int) - (Fc.cnt rsa : Int) < 0) = false := by simp; omega
  go_enter Tryd.func8, Tryd.ntmps8
  go_wp2_with fail
  refine (Fc.szT_any Aa ca rsa _ _ (Ha.out.into (al1 _ _)) hml (by omega) (by omega)).mono ?_
  rintro e w1 ⟨rfl, hb⟩
  rw [if_neg (by omega)]
  have D1 := Lib.hid (on1 _ hb)
  have s1 : w.heap.size + 1 ≤ w1.heap.size := by have := hb.size; (try simp at this); omega
  have aa_1 := Lib.hid ((Box1.new w 24 (.slice Aa rsa.length ca)).below hb (by simp))
  have HB1 := Lib.hid (HB.out.trans (D1.out.mono (by omega)))
  clear HB
  have HB := HB1
  clear HB1 hb
  have z_aa : w.heap.size < w1.heap.size := by omega
  obtain ⟨qaa0⟩ := aa_1.out
  go_wp2_with fail
  refine (Fc.toT_any Aa ca rsa _ (Ha.out.into HB.out) hnl ROW.out).mono ?_
  rintro e w2 ⟨g2, c2, rs2, rfl, hk, hv, hb⟩
  clear qaa0
  have X2_2 := Lib.hid (hk.wide (lo' := w1.heap.size) (hi' := w2.heap.size) (by simp) (Nat.le_refl _))
  have V2 := Lib.hid hv
  clear hk hv
  have D2 := Lib.hid (hb)
  have s2 : w1.heap.size + 0 ≤ w2.heap.size := by have := hb.size; (try simp at this); omega
  have aa_2 := Lib.hid (aa_1.out.below D2.out (by omega))
  clear aa_1
  have HB2 := Lib.hid (HB.out.trans (D2.out.mono (by omega)))
  clear HB
  have HB := HB2
  clear HB2 hb
  clear z_aa
  have z_aa : w.heap.size < w2.heap.size := by omega
  obtain ⟨qaa0⟩ := aa_2.out
  go_wp2_with fail
  refine (HS.out _ _ _ _ (X2_2.out.rd.more (by (try simp) <;> omega)) V2.out HB.out).mono ?_
  rintro e w3 ⟨R3, t3, rfl, _, hown, hb⟩
  clear qaa0
  have Y3_3 := Lib.hid (hown.wide (lo' := w2.heap.size) (hi' := w3.heap.size) (by simp) (Nat.le_refl _))
  clear hown
  have D3 := Lib.hid (hb)
  have s3 : w2.heap.size + 0 ≤ w3.heap.size := by have := hb.size; (try simp at this); omega
  have aa_3 := Lib.hid (aa_2.out.below D3.out (by omega))
  clear aa_2
  have X2_3 := Lib.hid (X2_2.out.below D3.out (by omega))
  clear X2_2
  have HB3 := Lib.hid (HB.out.trans (D3.out.mono (by omega)))
  clear HB
  have HB := HB3
  clear HB3 hb
  clear z_aa
  have z_aa : w.heap.size < w3.heap.size := by omega
  clear X2_3
  as_aux_lemma =>
    obtain ⟨qaa0⟩ := aa_3.out
    go_wp2_with fail
    refine (Fc.toT_any Aa ca rsa _ (Ha.out.into HB.out) hnl ROW.out).mono ?_
    rintro e w4 ⟨g4, c4, rs4, rfl, hk, hv, hb⟩
    clear qaa0
    have X4_4 := Lib.hid (hk.wide (lo' := w3.heap.size) (hi' := w4.heap.size) (by simp) (Nat.le_refl _))
    have V4 := Lib.hid hv
    clear hk hv
    have D4 := Lib.hid (hb)
    have s4 : w3.heap.size + 0 ≤ w4.heap.size := by have := hb.size; (try simp at this); omega
    have aa_4 := Lib.hid (aa_3.out.below D4.out (by omega))
    clear aa_3
    have Y3_4 := Lib.hid (Y3_3.out.below D4.out (by omega))
    clear Y3_3
    have HB4 := Lib.hid (HB.out.trans (D4.out.mono (by omega)))
    clear HB
    have HB := HB4
    clear HB4 hb
    clear z_aa
    have z_aa : w.heap.size < w4.heap.size := by omega
    obtain ⟨qaa0⟩ := aa_4.out
    go_wp2_with fail
    refine (HI.out _ _ _ _ ((X4_4.out.al (by omega) (al1 _ _)).rd.more (by (try simp) <;> omega)) V4.out (HB.out.trans ((al1 _ _).mono (by omega)))).mono ?_
    rintro e w5 ⟨R5, t5, rfl, _, hown, hb⟩
    clear qaa0
    have Y5_5 := Lib.hid (hown.wide (lo' := w4.heap.size + 1) (hi' := w5.heap.size) (by simp) (Nat.le_refl _))
    clear hown
    have D5 := Lib.hid (on1 _ hb)
    have s5 : w4.heap.size + 1 ≤ w5.heap.size := by have := hb.size; (try simp at this); omega
    have aa_5 := Lib.hid (aa_4.out.below D5.out (by omega))
    clear aa_4
    have bx_5 := Lib.hid ((Box1.new w4 29 (.slice (some ⟨g4, 0, none⟩) rs4.length c4)).below hb (by simp))
    have Y3_5 := Lib.hid (Y3_4.out.below D5.out (by omega))
    clear Y3_4
    have X4_5 := Lib.hid (X4_4.out.below D5.out (by omega))
    clear X4_4
    have HB5 := Lib.hid (HB.out.trans (D5.out.mono (by omega)))
    clear HB
    have HB := HB5
    clear HB5 hb
    clear z_aa
    have z_aa : w.heap.size < w5.heap.size := by omega
    have z_bx : w4.heap.size < w5.heap.size := by omega
    obtain ⟨qaa0⟩ := aa_5.out
    obtain ⟨qbx0⟩ := bx_5.out
    go_wp2_with fail
    refine (eqInts_any _ _ _ _ _ ll (w5.heap.size) (w3.heap.size) _ Y5_5.out.ints Y3_5.out.ints hzl).mono ?_
    rintro e w6 ⟨rfl, hm⟩
    have hb : Below w5.heap.size w5 w6 := by obtain ⟨m, rfl⟩ := hm; exact Go.Joins.below_draws _ _ _
    clear hm
    clear qaa0 qbx0
    have D6 := Lib.hid (hb)
    have s6 : w5.heap.size + 0 ≤ w6.heap.size := by have := hb.size; (try simp at this); omega
    have aa_6 := Lib.hid (aa_5.out.below D6.out (by omega))
    clear aa_5
    have bx_6 := Lib.hid (bx_5.out.below D6.out (by omega))
    clear bx_5
    have Y3_6 := Lib.hid (Y3_5.out.below D6.out (by omega))
    clear Y3_5
    have X4_6 := Lib.hid (X4_5.out.below D6.out (by omega))
    clear X4_5
    have Y5_6 := Lib.hid (Y5_5.out.below D6.out (by omega))
    clear Y5_5
    have HB6 := Lib.hid (HB.out.trans (D6.out.mono (by omega)))
    clear HB
    have HB := HB6
    clear HB6 hb
    clear z_aa
    have z_aa : w.heap.size < w6.heap.size := by omega
    clear z_bx
    have z_bx : w4.heap.size < w6.heap.size := by omega
    as_aux_lemma =>
      obtain ⟨qaa0⟩ := aa_6.out
      obtain ⟨qbx0⟩ := bx_6.out
      go_wp2_with fail
      go_region_held3 (fun W => (W.cell? ⟨w4.heap.size, 0, none⟩ = some (.slice (some ⟨g4, 0, none⟩) rs4.length c4)) ∧ (W.cell? ⟨w.heap.size, 0, none⟩ = some (.slice Aa rsa.length ca))) (go_keep)
        (first
          | (go_at_call 16; (with_reducible refine (Fc.toT_any Aa ca rsa _ (by exact Ha.out.into HB.out.drew) hnl ROW.out).mono ?_); rintro e w7 ⟨g7, c7, rs7, rfl, hk6, hv6, hb6'⟩; have hb6 := undrew hb6'; have K6 := Lib.hid hk6; have B6 := Lib.hid hb6; have V6 := Lib.hid hv6; have z6 := hb6.size; have e0 := (hb6.cell (p := ⟨w4.heap.size, 0, none⟩) (by dsimp only; omega)).trans bx_6.out.c; have f0 := (hb6.cell (p := ⟨w.heap.size, 0, none⟩) (by dsimp only; omega)).trans aa_6.out.c; clear hk6 hv6 hb6 hb6')
          | (go_at_call 18; (with_reducible refine (Fc.eqT_any _ _ _ _ rs4 _ (w4.heap.size) _ _ (by exact X4_6.out.rd.below (B6.out.mono (by omega))) (by exact K6.out.rd) (V4.out.trans V6.out.symm) (by have := B6.out.size; omega) (Nat.le_refl _) (by have := Fc.vals_same V4.out; omega) (Fc.rows_same V4.out ROW.out)).mono ?_); rintro e w8 ⟨rfl, hb7⟩; have m0 := (hb7.cell (p := ⟨w4.heap.size, 0, none⟩) (by dsimp only; omega)).trans e0; have y0 := (hb7.cell (p := ⟨w.heap.size, 0, none⟩) (by dsimp only; omega)).trans f0))
      clear e0 f0 m0 y0 K6 V6
      clear qaa0 qbx0
      have hb6 := B6.out
      clear B6
      have D7 := Lib.hid (hb6)
      have s7 : w6.heap.size + 0 ≤ w7.heap.size := by have := hb6.size; (try simp at this); omega
      have aa_7 := Lib.hid (aa_6.out.below D7.out (by omega))
      clear aa_6
      have bx_7 := Lib.hid (bx_6.out.below D7.out (by omega))
      clear bx_6
      have Y3_7 := Lib.hid (Y3_6.out.below D7.out (by omega))
      clear Y3_6
      have X4_7 := Lib.hid (X4_6.out.below D7.out (by omega))
      clear X4_6
      have Y5_7 := Lib.hid (Y5_6.out.below D7.out (by omega))
      clear Y5_6
      have HB7 := Lib.hid (HB.out.trans (D7.out.mono (by omega)))
      clear HB
      have HB := HB7
      clear HB7 hb6
      clear z_aa
      have z_aa : w.heap.size < w7.heap.size := by omega
      clear z_bx
      have z_bx : w4.heap.size < w7.heap.size := by omega
      have D8 := Lib.hid (hb7)
      have s8 : w7.heap.size + 0 ≤ w8.heap.size := by have := hb7.size; (try simp at this); omega
      have aa_8 := Lib.hid (aa_7.out.below D8.out (by omega))
      clear aa_7
      have bx_8 := Lib.hid (bx_7.out.below D8.out (by omega))
      clear bx_7
      have Y3_8 := Lib.hid (Y3_7.out.below D8.out (by omega))
      clear Y3_7
      have X4_8 := Lib.hid (X4_7.out.below D8.out (by omega))
      clear X4_7
      have Y5_8 := Lib.hid (Y5_7.out.below D8.out (by omega))
      clear Y5_7
      have HB8 := Lib.hid (HB.out.trans (D8.out.mono (by omega)))
      clear HB
      have HB := HB8
      clear HB8 hb7
      clear z_aa
      have z_aa : w.heap.size < w8.heap.size := by omega
      clear z_bx
      have z_bx : w4.heap.size < w8.heap.size := by omega
      as_aux_lemma =>
        obtain ⟨qaa0⟩ := aa_8.out
        obtain ⟨qbx0⟩ := bx_8.out
        go_wp2_with fail
        have tx := Fc.tot_vals V4.out
        have lx := Fc.vals_same V4.out
        have tt2 := TT.out
        refine (Fc.markT_any (some ⟨g4, 0, none⟩) c4 1 rs4 (w3.heap.size) (w4.heap.size) _ X4_8.out (by omega) (by omega) (by omega) (by omega)).mono ?_
        rintro e w9 ⟨rfl, hown, hk⟩
        have TX := Lib.hid (show Fc.tot rs4 ≤ 2097152 from by omega)
        clear X4_8 hown lx tx tt2
        clear qaa0 qbx0
        have D9 := Lib.hid (hk)
        have s9 : w8.heap.size ≤ w9.heap.size := hk.size
        have aa_9 := Lib.hid (aa_8.out.kept D9.out (by omega) (by omega))
        clear aa_8
        have bx_9 := Lib.hid (bx_8.out.kept D9.out (by omega) (by omega))
        clear bx_8
        have Y3_9 := Lib.hid (Y3_8.out.kept D9.out (by omega) (by omega))
        clear Y3_8
        have Y5_9 := Lib.hid (Y5_8.out.kept D9.out (by omega) (by omega))
        clear Y5_8
        have HB9 := Lib.hid (HB.out.trans (D9.out.below (by omega) (by omega)))
        clear HB
        have HB := HB9
        clear HB9 hk
        clear z_aa
        have z_aa : w.heap.size < w9.heap.size := by omega
        clear z_bx
        have z_bx : w4.heap.size < w9.heap.size := by omega
        have tx9 : Fc.tot rs4 ≤ 2097152 := TX.out
        have tx1 : decide ((1 : Int) + (Fc.tot rs4 : Int) < 0) = false := by simp; omega
        clear tx9
        obtain ⟨qaa0⟩ := aa_9.out
        obtain ⟨qbx0⟩ := bx_9.out
        go_wp2_with fail
        refine (eqInts_any _ _ _ _ _ ll (w5.heap.size) (w3.heap.size) _ Y5_9.out.ints Y3_9.out.ints hzl).mono ?_
        rintro e w10 ⟨rfl, hm⟩
        have hb : Below w9.heap.size w9 w10 := by obtain ⟨m, rfl⟩ := hm; exact Go.Joins.below_draws _ _ _
        clear hm
        clear qaa0 qbx0
        have D10 := Lib.hid (hb)
        have s10 : w9.heap.size + 0 ≤ w10.heap.size := by have := hb.size; (try simp at this); omega
        have aa_10 := Lib.hid (aa_9.out.below D10.out (by omega))
        clear aa_9
        have bx_10 := Lib.hid (bx_9.out.below D10.out (by omega))
        clear bx_9
        have Y3_10 := Lib.hid (Y3_9.out.below D10.out (by omega))
        clear Y3_9
        have Y5_10 := Lib.hid (Y5_9.out.below D10.out (by omega))
        clear Y5_9
        have HB10 := Lib.hid (HB.out.trans (D10.out.mono (by omega)))
        clear HB
        have HB := HB10
        clear HB10 hb
        clear z_aa
        have z_aa : w.heap.size < w10.heap.size := by omega
        clear z_bx
        have z_bx : w4.heap.size < w10.heap.size := by omega
        as_aux_lemma =>
          obtain ⟨qaa0⟩ := aa_10.out
          obtain ⟨qbx0⟩ := bx_10.out
          go_wp2_with fail
          refine (markMine_any R5 ll.length _ 1 ll (w4.heap.size + 1) (w5.heap.size) _ Y5_10.out hzl (by omega) (by omega)).mono ?_
          rintro e w11 ⟨rfl, hown, hk⟩
          have Y5_11 := Lib.hid hown
          clear Y5_10 hown
          clear qaa0 qbx0
          have D11 := Lib.hid (hk)
          have s11 : w10.heap.size ≤ w11.heap.size := hk.size
          have aa_11 := Lib.hid (aa_10.out.kept D11.out (by omega) (by omega))
          clear aa_10
          have bx_11 := Lib.hid (bx_10.out.kept D11.out (by omega) (by omega))
          clear bx_10
          have Y3_11 := Lib.hid (Y3_10.out.kept D11.out (by omega) (by omega))
          clear Y3_10
          have HB11 := Lib.hid (HB.out.trans (D11.out.below (by omega) (by omega)))
          clear HB
          have HB := HB11
          clear HB11 hk
          clear z_aa
          have z_aa : w.heap.size < w11.heap.size := by omega
          clear z_bx
          have z_bx : w4.heap.size < w11.heap.size := by omega
          have tq : decide ((1 : Int) + (ll.length : Int) < 0) = false := by simp; omega
          obtain ⟨qaa0⟩ := aa_11.out
          obtain ⟨qbx0⟩ := bx_11.out
          go_wp2_with fail
          refine (heldInts_any R5 ll.length _ 1 (w5.heap.size) _ Y5_11.out.ints hzl (by omega) (by omega)).mono ?_
          rintro e w' ⟨rfl, rfl⟩
          clear qaa0 qbx0
          as_aux_lemma =>
            obtain ⟨qaa0⟩ := aa_11.out
            obtain ⟨qbx0⟩ := bx_11.out
            go_wp2_with fail
            refine (Fc.toT_any Aa ca rsa _ (Ha.out.into HB.out) hnl ROW.out).mono ?_
            rintro e w12 ⟨g12, c12, rs12, rfl, hk, hv, hb⟩
            clear qaa0 qbx0
            have X12_12 := Lib.hid (hk.wide (lo' := w11.heap.size) (hi' := w12.heap.size) (by simp) (Nat.le_refl _))
            have V12 := Lib.hid hv
            clear hk hv
            have D12 := Lib.hid (hb)
            have s12 : w11.heap.size + 0 ≤ w12.heap.size := by have := hb.size; (try simp at this); omega
            have aa_12 := Lib.hid (aa_11.out.below D12.out (by omega))
            clear aa_11
            have bx_12 := Lib.hid (bx_11.out.below D12.out (by omega))
            clear bx_11
            have Y3_12 := Lib.hid (Y3_11.out.below D12.out (by omega))
            clear Y3_11
            have Y5_12 := Lib.hid (Y5_11.out.below D12.out (by omega))
            clear Y5_11
            have HB12 := Lib.hid (HB.out.trans (D12.out.mono (by omega)))
            clear HB
            have HB := HB12
            clear HB12 hb
            clear z_aa
            have z_aa : w.heap.size < w12.heap.size := by omega
            clear z_bx
            have z_bx : w4.heap.size < w12.heap.size := by omega
            obtain ⟨qaa0⟩ := aa_12.out
            obtain ⟨qbx0⟩ := bx_12.out
            go_wp2_with fail
            refine (HI.out _ _ _ _ (X12_12.out.rd.more (by (try simp) <;> omega)) V12.out HB.out).mono ?_
            rintro e w13 ⟨R13, t13, rfl, _, hown, hb⟩
            clear qaa0 qbx0
            have Y13_13 := Lib.hid (hown.wide (lo' := w12.heap.size) (hi' := w13.heap.size) (by simp) (Nat.le_refl _))
            clear hown
            have D13 := Lib.hid (hb)
            have s13 : w12.heap.size + 0 ≤ w13.heap.size := by have := hb.size; (try simp at this); omega
            have aa_13 := Lib.hid (aa_12.out.below D13.out (by omega))
            clear aa_12
            have bx_13 := Lib.hid (bx_12.out.below D13.out (by omega))
            clear bx_12
            have Y3_13 := Lib.hid (Y3_12.out.below D13.out (by omega))
            clear Y3_12
            have Y5_13 := Lib.hid (Y5_12.out.below D13.out (by omega))
            clear Y5_12
            have X12_13 := Lib.hid (X12_12.out.below D13.out (by omega))
            clear X12_12
            have HB13 := Lib.hid (HB.out.trans (D13.out.mono (by omega)))
            clear HB
            have HB := HB13
            clear HB13 hb
            clear z_aa
            have z_aa : w.heap.size < w13.heap.size := by omega
            clear z_bx
            have z_bx : w4.heap.size < w13.heap.size := by omega
            clear X12_13
            obtain ⟨qaa0⟩ := aa_13.out
            obtain ⟨qbx0⟩ := bx_13.out
            go_wp2_with fail
            refine (eqInts_any _ _ _ _ _ ll (w13.heap.size) (w3.heap.size) _ Y13_13.out.ints Y3_13.out.ints hzl).mono ?_
            rintro e w14 ⟨rfl, hm⟩
            have hb : Below w13.heap.size w13 w14 := by obtain ⟨m, rfl⟩ := hm; exact Go.Joins.below_draws _ _ _
            clear hm
            clear qaa0 qbx0
            have D14 := Lib.hid (hb)
            have s14 : w13.heap.size + 0 ≤ w14.heap.size := by have := hb.size; (try simp at this); omega
            have aa_14 := Lib.hid (aa_13.out.below D14.out (by omega))
            clear aa_13
            have bx_14 := Lib.hid (bx_13.out.below D14.out (by omega))
            clear bx_13
            have Y3_14 := Lib.hid (Y3_13.out.below D14.out (by omega))
            clear Y3_13
            have Y5_14 := Lib.hid (Y5_13.out.below D14.out (by omega))
            clear Y5_13
            have Y13_14 := Lib.hid (Y13_13.out.below D14.out (by omega))
            clear Y13_13
            have HB14 := Lib.hid (HB.out.trans (D14.out.mono (by omega)))
            clear HB
            have HB := HB14
            clear HB14 hb
            clear z_aa
            have z_aa : w.heap.size < w14.heap.size := by omega
            clear z_bx
            have z_bx : w4.heap.size < w14.heap.size := by omega
            as_aux_lemma =>
              obtain ⟨qaa0⟩ := aa_14.out
              obtain ⟨qbx0⟩ := bx_14.out
              go_wp2_with fail
              refine (heldInts_any R5 ll.length _ 1 (w5.heap.size) _ Y5_14.out.ints hzl (by omega) (by omega)).mono ?_
              rintro e w' ⟨rfl, rfl⟩
              clear qaa0 qbx0
              go_wp2
              go_ret
              exact ⟨rfl, HB.out⟩

end Go.Proofs.YtjendlfophdfeaaDoor

namespace Go.Proofs.YtjendlfophdfeaaDoor
open Go.RowKit
namespace Eg
/-- The two ends of each edge. -/
def tab : List (List Int) := [[0, 1], [0, 2], [0, 3], [1, 2], [1, 3], [2, 3]]
def end0 (e : Nat) : Int := (tab.getD e []).getD 0 0
def end1 (e : Nat) : Int := (tab.getD e []).getD 1 0
/-- The edge between two vertices. -/
def num : List (List Int) := [[-1, 0, 1, 2], [0, -1, 3, 4], [1, 3, -1, 5], [2, 4, 5, -1]]
def nb (a b : Nat) : Int := (num.getD a []).getD b 0
theorem nb_hit : ∀ a : Nat, a < 4 → ∀ b : Nat, b < 4 → ∀ e : Nat, e < 6 → end0 e = min (a : Int) b ∧ end1 e = max (a : Int) b → nb a b = e := by decide +kernel
theorem nb_miss : ∀ a : Nat, a < 4 → ∀ b : Nat, b < 4 → (∀ e : Nat, e < 6 → ¬ (end0 e = min (a : Int) b ∧ end1 e = max (a : Int) b)) → nb a b = -1 := by decide +kernel

set_option maxRecDepth 100000 in
set_option maxHeartbeats 4000000 in
theorem l08Ends_spec (e : Nat) (w : World) (he : e < 6) : Calls Tryd.prog 128 #[.int .i64 (e : Int)] w fun x w' => x = .returned (.tuple #[.int .i64 (end0 e), .int .i64 (end1 e)]) ∧ Below w.heap.size w w' := by
  have hcase : e = 0 ∨ e = 1 ∨ e = 2 ∨ e = 3 ∨ e = 4 ∨ e = 5 := by omega
  clear he
  rcases hcase with rfl | rfl | rfl | rfl | rfl | rfl
  all_goals
    go_enter Tryd.func128, Tryd.ntmps128
    go_wp2_with (go_region)
    all_goals
      first
        | exact bodyPost_ret (v := .tuple #[.int .i64 0, .int .i64 1]) (by simp [results, Tryd.results128, go_sem]) rfl ⟨rfl, (al2 _ _ _).drew⟩
        | exact bodyPost_ret (v := .tuple #[.int .i64 0, .int .i64 2]) (by simp [results, Tryd.results128, go_sem]) rfl ⟨rfl, (al2 _ _ _).drew⟩
        | exact bodyPost_ret (v := .tuple #[.int .i64 0, .int .i64 3]) (by simp [results, Tryd.results128, go_sem]) rfl ⟨rfl, (al2 _ _ _).drew⟩
        | exact bodyPost_ret (v := .tuple #[.int .i64 1, .int .i64 2]) (by simp [results, Tryd.results128, go_sem]) rfl ⟨rfl, (al2 _ _ _).drew⟩
        | exact bodyPost_ret (v := .tuple #[.int .i64 1, .int .i64 3]) (by simp [results, Tryd.results128, go_sem]) rfl ⟨rfl, (al2 _ _ _).drew⟩
        | exact bodyPost_ret (v := .tuple #[.int .i64 2, .int .i64 3]) (by simp [results, Tryd.results128, go_sem]) rfl ⟨rfl, (al2 _ _ _).drew⟩

/-- What EdgeEnds hands back. -/
def ends0 (e : Int) : Int := if 0 ≤ e ∧ e < 6 then end0 e.toNat else -1
def ends1 (e : Int) : Int := if 0 ≤ e ∧ e < 6 then end1 e.toNat else -1
/-- What EdgeBetween hands back. -/
def btw (a b : Int) : Int := if (0 ≤ a ∧ a < 4) ∧ (0 ≤ b ∧ b < 4) then nb a.toNat b.toNat else -1

set_option maxRecDepth 100000 in
set_option maxHeartbeats 8000000 in
theorem l08Edge_spec (a b : Nat) (w : World) (ha : a < 4) (hb : b < 4) : Calls Tryd.prog 157 #[.int .i64 (a : Int), .int .i64 (b : Int)] w fun x w' => x = .returned (.int .i64 (nb a b)) ∧ Below w.heap.size w w' := by
  have HIT := Lib.hid (nb_hit a ha b hb)
  have MISS := Lib.hid (nb_miss a ha b hb)
  obtain ⟨m, hm⟩ : ∃ m, min (a : Int) b = m := ⟨_, rfl⟩
  obtain ⟨M, hM⟩ : ∃ M, max (a : Int) b = M := ⟨_, rfl⟩
  rw [hm, hM] at HIT MISS
  by_cases hab : (a : Int) ≤ (b : Int)
  case pos =>
    by_cases heq : a = b
    case pos =>
      subst heq
      obtain ⟨rfl, rfl⟩ : m = (a : Int) ∧ M = (a : Int) := by omega
      clear hab
      clear hm hM
      go_enter Tryd.func157, Tryd.ntmps157
      go_wp2
      go_loopw [5] (fun i W => ∃ k : Nat, k ≤ 6 ∧ i = .int .i64 k ∧ (∀ e, e < k → ¬ (end0 e = (a : Int) ∧ end1 e = (a : Int))) ∧ Below w.heap.size w W) (fun i _ => 6 - (intOf i).toNat)
      case atStart => exact ⟨0, by omega, rfl, fun e he => absurd he (Nat.not_lt_zero _), Below.refl _ _⟩
      case round =>
        obtain ⟨k, hk, rfl, hno, hbel⟩ := hrel
        have NO := Lib.hid hno
        have BW := Lib.hid hbel
        clear hno hbel
        by_cases h6 : k < 6
        case neg =>
          obtain rfl : k = 6 := by omega
          go_wp2
          go_ret
          exact ⟨by rw [MISS.out NO.out]; rfl, BW.out⟩
        have i1 : (k : Int) < 6 := by omega
        go_wp2_with fail
        refine (l08Ends_spec k _ h6).mono ?_
        rintro x w1 ⟨rfl, hb1⟩
        have D1 := Lib.hid (BW.out.trans (hb1.mono BW.out.size))
        clear hb1
        obtain ⟨x0, hx0⟩ : ∃ x0, end0 k = x0 := ⟨_, rfl⟩
        obtain ⟨x1, hx1⟩ : ∃ x1, end1 k = x1 := ⟨_, rfl⟩
        have X0 := Lib.hid hx0
        have X1 := Lib.hid hx1
        rw [hx0, hx1]
        clear hx0 hx1
        by_cases y0 : x0 = (a : Int)
        · by_cases y1 : x1 = (a : Int)
          · have u0 : (x0 == (a : Int)) = true := by simpa using y0
            have u1 : (x1 == (a : Int)) = true := by simpa using y1
            have R := Lib.hid (HIT.out k h6 ⟨by rw [X0.out]; exact y0, by rw [X1.out]; exact y1⟩)
            clear y0 y1
            go_wp2
            go_ret
            exact ⟨by rw [R.out]; rfl, D1.out⟩
          · have u0 : (x0 == (a : Int)) = true := by simpa using y0
            have u1 : (x1 == (a : Int)) = false := by simpa using y1
            have NN := Lib.hid (show ∀ e, e < k + 1 → ¬ (end0 e = (a : Int) ∧ end1 e = (a : Int)) from fun e he => by
              by_cases hek : e = k
              · subst hek; rw [X0.out, X1.out]; exact fun h => y1 h.2
              · exact NO.out e (by omega))
            clear y0 y1
            go_wp2
            go_roundw
            case rel => exact ⟨k + 1, by omega, by go_num, NN.out, D1.out⟩
            case measure => simp [intOf]; omega
        · have u0 : (x0 == (a : Int)) = false := by simpa using y0
          have NN := Lib.hid (show ∀ e, e < k + 1 → ¬ (end0 e = (a : Int) ∧ end1 e = (a : Int)) from fun e he => by
            by_cases hek : e = k
            · subst hek; rw [X0.out, X1.out]; exact fun h => y0 h.1
            · exact NO.out e (by omega))
          clear y0
          go_wp2
          go_roundw
          case rel => exact ⟨k + 1, by omega, by go_num, NN.out, D1.out⟩
          case measure => simp [intOf]; omega
    case neg =>
      have hlt : (a : Int) < (b : Int) := by omega
      obtain ⟨rfl, rfl⟩ : m = (a : Int) ∧ M = (b : Int) := by omega
      clear hm hM
      go_enter Tryd.func157, Tryd.ntmps157
      go_wp2
      go_loopw [5] (fun i W => ∃ k : Nat, k ≤ 6 ∧ i = .int .i64 k ∧ (∀ e, e < k → ¬ (end0 e = (a : Int) ∧ end1 e = (b : Int))) ∧ Below w.heap.size w W) (fun i _ => 6 - (intOf i).toNat)
      case atStart => exact ⟨0, by omega, rfl, fun e he => absurd he (Nat.not_lt_zero _), Below.refl _ _⟩
      case round =>
        obtain ⟨k, hk, rfl, hno, hbel⟩ := hrel
        have NO := Lib.hid hno
        have BW := Lib.hid hbel
        clear hno hbel
        by_cases h6 : k < 6
        case neg =>
          obtain rfl : k = 6 := by omega
          go_wp2
          go_ret
          exact ⟨by rw [MISS.out NO.out]; rfl, BW.out⟩
        have i1 : (k : Int) < 6 := by omega
        go_wp2_with fail
        refine (l08Ends_spec k _ h6).mono ?_
        rintro x w1 ⟨rfl, hb1⟩
        have D1 := Lib.hid (BW.out.trans (hb1.mono BW.out.size))
        clear hb1
        obtain ⟨x0, hx0⟩ : ∃ x0, end0 k = x0 := ⟨_, rfl⟩
        obtain ⟨x1, hx1⟩ : ∃ x1, end1 k = x1 := ⟨_, rfl⟩
        have X0 := Lib.hid hx0
        have X1 := Lib.hid hx1
        rw [hx0, hx1]
        clear hx0 hx1
        by_cases y0 : x0 = (a : Int)
        · by_cases y1 : x1 = (b : Int)
          · have u0 : (x0 == (a : Int)) = true := by simpa using y0
            have u1 : (x1 == (b : Int)) = true := by simpa using y1
            have R := Lib.hid (HIT.out k h6 ⟨by rw [X0.out]; exact y0, by rw [X1.out]; exact y1⟩)
            clear y0 y1
            go_wp2
            go_ret
            exact ⟨by rw [R.out]; rfl, D1.out⟩
          · have u0 : (x0 == (a : Int)) = true := by simpa using y0
            have u1 : (x1 == (b : Int)) = false := by simpa using y1
            have NN := Lib.hid (show ∀ e, e < k + 1 → ¬ (end0 e = (a : Int) ∧ end1 e = (b : Int)) from fun e he => by
              by_cases hek : e = k
              · subst hek; rw [X0.out, X1.out]; exact fun h => y1 h.2
              · exact NO.out e (by omega))
            clear y0 y1
            go_wp2
            go_roundw
            case rel => exact ⟨k + 1, by omega, by go_num, NN.out, D1.out⟩
            case measure => simp [intOf]; omega
        · have u0 : (x0 == (a : Int)) = false := by simpa using y0
          have NN := Lib.hid (show ∀ e, e < k + 1 → ¬ (end0 e = (a : Int) ∧ end1 e = (b : Int)) from fun e he => by
            by_cases hek : e = k
            · subst hek; rw [X0.out, X1.out]; exact fun h => y0 h.1
            · exact NO.out e (by omega))
          clear y0
          go_wp2
          go_roundw
          case rel => exact ⟨k + 1, by omega, by go_num, NN.out, D1.out⟩
          case measure => simp [intOf]; omega
  case neg =>
    obtain ⟨rfl, rfl⟩ : m = (b : Int) ∧ M = (a : Int) := by omega
    clear hm hM
    go_enter Tryd.func157, Tryd.ntmps157
    go_wp2
    go_loopw [5] (fun i W => ∃ k : Nat, k ≤ 6 ∧ i = .int .i64 k ∧ (∀ e, e < k → ¬ (end0 e = (b : Int) ∧ end1 e = (a : Int))) ∧ Below w.heap.size w W) (fun i _ => 6 - (intOf i).toNat)
    case atStart => exact ⟨0, by omega, rfl, fun e he => absurd he (Nat.not_lt_zero _), Below.refl _ _⟩
    case round =>
      obtain ⟨k, hk, rfl, hno, hbel⟩ := hrel
      have NO := Lib.hid hno
      have BW := Lib.hid hbel
      clear hno hbel
      by_cases h6 : k < 6
      case neg =>
        obtain rfl : k = 6 := by omega
        go_wp2
        go_ret
        exact ⟨by rw [MISS.out NO.out]; rfl, BW.out⟩
      have i1 : (k : Int) < 6 := by omega
      go_wp2_with fail
      refine (l08Ends_spec k _ h6).mono ?_
      rintro x w1 ⟨rfl, hb1⟩
      have D1 := Lib.hid (BW.out.trans (hb1.mono BW.out.size))
      clear hb1
      obtain ⟨x0, hx0⟩ : ∃ x0, end0 k = x0 := ⟨_, rfl⟩
      obtain ⟨x1, hx1⟩ : ∃ x1, end1 k = x1 := ⟨_, rfl⟩
      have X0 := Lib.hid hx0
      have X1 := Lib.hid hx1
      rw [hx0, hx1]
      clear hx0 hx1
      by_cases y0 : x0 = (b : Int)
      · by_cases y1 : x1 = (a : Int)
        · have u0 : (x0 == (b : Int)) = true := by simpa using y0
          have u1 : (x1 == (a : Int)) = true := by simpa using y1
          have R := Lib.hid (HIT.out k h6 ⟨by rw [X0.out]; exact y0, by rw [X1.out]; exact y1⟩)
          clear y0 y1
          go_wp2
          go_ret
          exact ⟨by rw [R.out]; rfl, D1.out⟩
        · have u0 : (x0 == (b : Int)) = true := by simpa using y0
          have u1 : (x1 == (a : Int)) = false := by simpa using y1
          have NN := Lib.hid (show ∀ e, e < k + 1 → ¬ (end0 e = (b : Int) ∧ end1 e = (a : Int)) from fun e he => by
            by_cases hek : e = k
            · subst hek; rw [X0.out, X1.out]; exact fun h => y1 h.2
            · exact NO.out e (by omega))
          clear y0 y1
          go_wp2
          go_roundw
          case rel => exact ⟨k + 1, by omega, by go_num, NN.out, D1.out⟩
          case measure => simp [intOf]; omega
      · have u0 : (x0 == (b : Int)) = false := by simpa using y0
        have NN := Lib.hid (show ∀ e, e < k + 1 → ¬ (end0 e = (b : Int) ∧ end1 e = (a : Int)) from fun e he => by
          by_cases hek : e = k
          · subst hek; rw [X0.out, X1.out]; exact fun h => y0 h.1
          · exact NO.out e (by omega))
        clear y0
        go_wp2
        go_roundw
        case rel => exact ⟨k + 1, by omega, by go_num, NN.out, D1.out⟩
        case measure => simp [intOf]; omega
end Eg
end Go.Proofs.YtjendlfophdfeaaDoor

namespace Go.Proofs.YtjendlfophdfeaaDoor
open Go Go.ChangeShapes Go.WideShapes Go.ChangeAt Go.RowKit
namespace Eg
theorem btw_no {a b : Int} (h : ¬ ((0 ≤ a ∧ a < 4) ∧ (0 ≤ b ∧ b < 4))) : btw a b = -1 := by unfold btw; rw [if_neg h]
theorem btw_yes {a b : Nat} (ha : a < 4) (hb : b < 4) : btw (a : Int) (b : Int) = nb a b := by unfold btw; rw [if_pos (by omega)]; rfl

/-- The program's tables. -/
def Te (W : World) : Prop := ∀ i, i < 6 → ∀ k, k < 2 → W.cell? ⟨3, i * 2 + k, none⟩ = some (.int .i64 ((tab.getD i []).getD k 0))
def Tn (W : World) : Prop := ∀ i, i < 4 → ∀ k, k < 4 → W.cell? ⟨2, i * 4 + k, none⟩ = some (.int .i64 ((num.getD i []).getD k 0))
theorem Te.pos {W : World} (h : Te W) : 3 < W.heap.size := World.block_lt_of_cell? W ⟨3, 0 * 2 + 0, none⟩ (h 0 (by omega) 0 (by omega))
theorem Tn.pos {W : World} (h : Tn W) : 2 < W.heap.size := World.block_lt_of_cell? W ⟨2, 0 * 4 + 0, none⟩ (h 0 (by omega) 0 (by omega))
theorem Te.below {W W' : World} {B : Nat} (h : Te W) (hb : Below B W W') (hB : 3 < B) : Te W' := fun i hi k hk => (hb.cell (p := ⟨3, i * 2 + k, none⟩) hB).trans (h i hi k hk)
theorem Tn.below {W W' : World} {B : Nat} (h : Tn W) (hb : Below B W W') (hB : 2 < B) : Tn W' := fun i hi k hk => (hb.cell (p := ⟨2, i * 4 + k, none⟩) hB).trans (h i hi k hk)

theorem tabE : (Rows.laid_loop_example_g00870_impl_edgeEnds : DataW Unit) = .agg (tab.map (Lib.tabData .i64)) := rfl
theorem tabN : (Rows.laid_loop_example_g00870_impl_edgeNumbers : DataW Unit) = .agg (num.map (Lib.tabData .i64)) := rfl
abbrev laidE : List (String × DataW Unit) := [("loop.example/g00870/impl.edgeEnds", Rows.laid_loop_example_g00870_impl_edgeEnds)]
abbrev laidN : List (String × DataW Unit) := [("loop.example/g00870/impl.edgeNumbers", Rows.laid_loop_example_g00870_impl_edgeNumbers)]
theorem rowE : ∀ i, i < 6 → ∀ k, k < 2 → ((tab.getD i []).map (Value.int .i64))[k]? = some (.int .i64 ((tab.getD i []).getD k 0)) := by
  intro i hi k hk
  have : ∀ i, i < 6 → (tab.getD i []).length = 2 := by decide
  have h := this i hi
  obtain ⟨l, hl⟩ : ∃ l, tab.getD i [] = l := ⟨_, rfl⟩
  rw [hl] at h ⊢
  rw [List.getElem?_map, List.getD_eq_getElem?_getD, List.getElem?_eq_getElem (by omega)]
  rfl
theorem rowN : ∀ i, i < 4 → ∀ k, k < 4 → ((num.getD i []).map (Value.int .i64))[k]? = some (.int .i64 ((num.getD i []).getD k 0)) := by
  intro i hi k hk
  have : ∀ i, i < 4 → (num.getD i []).length = 4 := by decide
  have h := this i hi
  obtain ⟨l, hl⟩ : ∃ l, num.getD i [] = l := ⟨_, rfl⟩
  rw [hl] at h ⊢
  rw [List.getElem?_map, List.getD_eq_getElem?_getD, List.getElem?_eq_getElem (by omega)]
  rfl
theorem te_of_laid {W : World} (h : laidMetH Tryd.prog laidE W) : Te W := by
  have h1 : laidMet Tryd.prog laidE W := h
  obtain ⟨ps, ⟨g, t, cs, fuel, p, q, hg, ht, hvar, hd, _⟩, _⟩ := h1
  rw [tabE] at hd
  obtain rfl := Option.some.inj ((show Tryd.prog.globalNamed "loop.example/g00870/impl.edgeEnds" = some 3 by kernel_rfl).symm.trans hg)
  obtain rfl := Option.some.inj ((show (Tryd.prog.globals[3]?).map (·.type) = some 250 by kernel_rfl).symm.trans ht)
  have hr := cells_of_rows (n := 6) (m := 2) Tryd.underlying250 Tryd.underlying249 Tryd.underlying2 (by kernel_rfl) (by kernel_rfl) (by kernel_rfl) hd
  intro i hi k hk
  have h2 := congrArg (·[k]?) (hr i hi)
  try dsimp only at h2
  rw [List.getElem?_take_of_lt hk, List.getElem?_drop, rowE i hi k hk, Array.getElem?_toList] at h2
  have h3 := World.var?_cell hg hvar (i * 2 + k)
  exact h3.trans h2
theorem tn_of_laid {W : World} (h : laidMetH Tryd.prog laidN W) : Tn W := by
  have h1 : laidMet Tryd.prog laidN W := h
  obtain ⟨ps, ⟨g, t, cs, fuel, p, q, hg, ht, hvar, hd, _⟩, _⟩ := h1
  rw [tabN] at hd
  obtain rfl := Option.some.inj ((show Tryd.prog.globalNamed "loop.example/g00870/impl.edgeNumbers" = some 2 by kernel_rfl).symm.trans hg)
  obtain rfl := Option.some.inj ((show (Tryd.prog.globals[2]?).map (·.type) = some 240 by kernel_rfl).symm.trans ht)
  have hr := cells_of_rows (n := 4) (m := 4) Tryd.underlying240 Tryd.underlying239 Tryd.underlying2 (by kernel_rfl) (by kernel_rfl) (by kernel_rfl) hd
  intro i hi k hk
  have h2 := congrArg (·[k]?) (hr i hi)
  try dsimp only at h2
  rw [List.getElem?_take_of_lt hk, List.getElem?_drop, rowN i hi k hk, Array.getElem?_toList] at h2
  have h3 := World.var?_cell hg hvar (i * 4 + k)
  exact h3.trans h2
/-- How many steps of the door lay both. -/
abbrev doorN : Nat := 400
theorem doorE (os : Os) (args : Array Value) : laidMetH Tryd.prog laidE ((World.doorLaid Tryd.prog doorN os).forCall (fun _ _ => 0) ⟨#[], args, []⟩).memory :=
  laidMetH_of_parts3 (fuel := 8) (laidMet_of_run' 8 (by kernel_rfl) (by kernel_rfl)) (by kernel_rfl) (by kernel_rfl)
theorem doorNb (os : Os) (args : Array Value) : laidMetH Tryd.prog laidN ((World.doorLaid Tryd.prog doorN os).forCall (fun _ _ => 0) ⟨#[], args, []⟩).memory :=
  laidMetH_of_parts3 (fuel := 8) (laidMet_of_run' 8 (by kernel_rfl) (by kernel_rfl)) (by kernel_rfl) (by kernel_rfl)
end Eg
end Go.Proofs.YtjendlfophdfeaaDoor

namespace Go.Proofs.YtjendlfophdfeaaDoor
open Go.RowKit
namespace Sk
/-- Marks, each element for itself. -/
def fresh (n : Nat) : List Int := (List.range n).map fun i : Nat => (i : Int)
theorem fresh_len (n : Nat) : (fresh n).length = n := by simp [fresh]
theorem fresh_at {n i : Nat} (h : i < n) : (fresh n).getD i 0 = i := by simp [fresh, h]
/-- Two elements get the same smaller mark. -/
def jn (m : List Int) (i k : Nat) : List Int := m.map fun x => if x = max (m.getD i 0) (m.getD k 0) then min (m.getD i 0) (m.getD k 0) else x
theorem jn_len (m : List Int) (i k : Nat) : (jn m i k).length = m.length := by simp [jn]
theorem jn_at {m : List Int} {i k j : Nat} (h : j < m.length) : (jn m i k).getD j 0 = if m.getD j 0 = max (m.getD i 0) (m.getD k 0) then min (m.getD i 0) (m.getD k 0) else m.getD j 0 := by
  unfold jn
  rw [List.getD_eq_getElem?_getD, List.getElem?_map, List.getElem?_eq_getElem h]
  have e : m.getD j 0 = m[j] := by rw [List.getD_eq_getElem?_getD, List.getElem?_eq_getElem h]; rfl
  rw [e]; rfl
theorem list_ext {l l' : List Int} (h : l.length = l'.length) (hk : ∀ j, j < l.length → l.getD j 0 = l'.getD j 0) : l = l' := by
  apply List.ext_getElem h
  intro j h1 h2
  have := hk j h1
  rwa [List.getD_eq_getElem?_getD, List.getD_eq_getElem?_getD, List.getElem?_eq_getElem h1, List.getElem?_eq_getElem h2] at this
theorem jn_same {m : List Int} {i k : Nat} (h : m.getD i 0 = m.getD k 0) : jn m i k = m := by
  refine list_ext (jn_len _ _ _) fun j hj => ?_
  rw [jn_len] at hj
  rw [jn_at hj, h]
  split
  · rename_i e; rw [e]; omega
  · rfl
/-- A forest: each element's parent is a smaller one of the same mark; a root's mark is itself. -/
structure Tree (N : Nat) (m : List Int) (ss : Nat → Int) (par : Nat → Nat) (sg : Nat → Int) : Prop where
  len : m.length = N
  top : ∀ i, i < N → par i = i → m.getD i 0 = i ∧ ss i = 1
  up : ∀ i, i < N → par i ≠ i → par i < i ∧ m.getD i 0 = m.getD (par i) 0 ∧ ss i = sg i * ss (par i) ∧ (sg i = 1 ∨ sg i = -1)
theorem Tree.start (N : Nat) (sg : Nat → Int) : Tree N (fresh N) (fun _ => 1) (fun i => i) sg := ⟨fresh_len N, fun _ h _ => ⟨fresh_at h, rfl⟩, fun _ _ h => absurd rfl h⟩
section
variable {N : Nat} {m : List Int} {ss : Nat → Int} {par : Nat → Nat} {sg : Nat → Int}
theorem Tree.le (h : Tree N m ss par sg) : ∀ i, i < N → 0 ≤ m.getD i 0 ∧ m.getD i 0 ≤ i := by
  intro i
  induction i using Nat.strongRecOn with
  | ind i ih =>
    intro hi
    by_cases e : par i = i
    · rw [(h.top i hi e).1]; omega
    · obtain ⟨h1, h2, -, -⟩ := h.up i hi e
      have := ih (par i) h1 (by omega)
      rw [h2]; omega
theorem Tree.sgn (h : Tree N m ss par sg) : ∀ i, i < N → ss i = 1 ∨ ss i = -1 := by
  intro i
  induction i using Nat.strongRecOn with
  | ind i ih =>
    intro hi
    by_cases e : par i = i
    · exact .inl (h.top i hi e).2
    · obtain ⟨h1, -, h3, h4⟩ := h.up i hi e
      have := ih (par i) h1 (by omega)
      rw [h3]
      rcases h4 with h4 | h4 <;> rcases this with h5 | h5 <;> rw [h4, h5] <;> simp
theorem Tree.iff (h : Tree N m ss par sg) {i : Nat} (hi : i < N) : m.getD i 0 = i ↔ par i = i := by
  constructor
  · intro e
    by_cases hp : par i = i
    · exact hp
    · obtain ⟨h1, h2, -, -⟩ := h.up i hi hp
      have := h.le (par i) (by omega)
      omega
  · exact fun e => (h.top i hi e).1
theorem Tree.root (h : Tree N m ss par sg) : ∀ i, i < N → ∃ r : Nat, m.getD i 0 = (r : Int) ∧ r ≤ i ∧ par r = r ∧ m.getD r 0 = (r : Int) := by
  intro i
  induction i using Nat.strongRecOn with
  | ind i ih =>
    intro hi
    by_cases e : par i = i
    · exact ⟨i, (h.top i hi e).1, Nat.le_refl _, e, (h.top i hi e).1⟩
    · obtain ⟨h1, h2, -, -⟩ := h.up i hi e
      obtain ⟨r, e1, e2, e3, e4⟩ := ih (par i) h1 (by omega)
      exact ⟨r, by rw [h2, e1], by omega, e3, e4⟩
/-- The sign of a cell after a join by the sign s. -/
def js (m : List Int) (ss : Nat → Int) (i k : Nat) (s : Int) (j : Nat) : Int := if m.getD j 0 = max (m.getD i 0) (m.getD k 0) then s * (ss i * ss k) * ss j else ss j
theorem Tree.join (h : Tree N m ss par sg) {i k : Nat} (hi : i < N) (hk : k < N) (hne : m.getD i 0 ≠ m.getD k 0) {s : Int} (hs : s = 1 ∨ s = -1) {lo hi' : Nat} (hlo : min (m.getD i 0) (m.getD k 0) = lo) (hhi : max (m.getD i 0) (m.getD k 0) = hi') :
    Tree N (jn m i k) (js m ss i k s) (fun j => if j = hi' then lo else par j) (fun j => if j = hi' then s * (ss i * ss k) else sg j) := by
  obtain ⟨r1, e1, l1, p1, q1⟩ := h.root i hi
  obtain ⟨r2, e2, l2, p2, q2⟩ := h.root k hk
  have hl : lo < hi' := by omega
  have hN : hi' < N := by omega
  have mlo : m.getD lo 0 = lo ∧ par lo = lo := by
    have : lo = r1 ∨ lo = r2 := by omega
    rcases this with e | e <;> rw [e] <;> exact ⟨by assumption, by assumption⟩
  have mhi : m.getD hi' 0 = hi' ∧ par hi' = hi' := by
    have : hi' = r1 ∨ hi' = r2 := by omega
    rcases this with e | e <;> rw [e] <;> exact ⟨by assumption, by assumption⟩
  have jat : ∀ j, j < N → (jn m i k).getD j 0 = if m.getD j 0 = hi' then (lo : Int) else m.getD j 0 := fun j hj => by
    rw [jn_at (by rw [h.len]; exact hj), hlo, hhi]
  have sat : ∀ j, js m ss i k s j = if m.getD j 0 = hi' then s * (ss i * ss k) * ss j else ss j := fun j => by unfold js; rw [hhi]
  have sc : s * (ss i * ss k) = 1 ∨ s * (ss i * ss k) = -1 := by
    rcases hs with e | e <;> rcases h.sgn i hi with f | f <;> rcases h.sgn k hk with g | g <;> rw [e, f, g] <;> simp
  refine ⟨(jn_len _ _ _).trans h.len, fun j hj hp => ?_, fun j hj hp => ?_⟩
  · have hjn : j ≠ hi' := fun e => by rw [if_pos e] at hp; omega
    rw [if_neg hjn] at hp
    obtain ⟨a, b⟩ := h.top j hj hp
    rw [jat j hj, sat, a, if_neg (by omega), if_neg (by omega)]
    exact ⟨rfl, b⟩
  · by_cases hjn : j = hi'
    · subst hjn
      rw [if_pos rfl, if_pos rfl]
      rw [jat _ hj, jat _ (by omega), sat, sat, mhi.1, mlo.1, if_pos rfl, if_neg (by omega), if_pos rfl, if_neg (by omega), (h.top _ hN mhi.2).2, (h.top lo (by omega) mlo.2).2]
      exact ⟨hl, rfl, rfl, sc⟩
    · rw [if_neg hjn] at hp
      rw [if_neg hjn, if_neg hjn]
      obtain ⟨a, b, c, d⟩ := h.up j hj hp
      rw [jat _ hj, jat _ (by omega), sat, sat, b]
      refine ⟨a, rfl, ?_, d⟩
      split
      · rw [c]; exact Int.mul_left_comm _ _ _
      · exact c
end
/-- How many classes begin ahead of an element. -/
def rk (m : List Int) : Nat → Nat
  | 0 => 0
  | i + 1 => rk m i + if m.getD i 0 = (i : Int) then 1 else 0
theorem rk_mono (m : List Int) {i j : Nat} (h : i ≤ j) : rk m i ≤ rk m j := by
  induction j with
  | zero => obtain rfl : i = 0 := by omega
            exact Nat.le_refl _
  | succ j ih =>
    by_cases e : i = j + 1
    · rw [e]; exact Nat.le_refl _
    · have := ih (by omega)
      simp only [rk]; omega
theorem rk_le (m : List Int) (i : Nat) : rk m i ≤ i := by
  induction i with
  | zero => exact Nat.le_refl _
  | succ i ih => simp only [rk]; split <;> omega
theorem rk_lt {m : List Int} {i j : Nat} (h : i < j) (hi : m.getD i 0 = (i : Int)) : rk m i < rk m j := by
  have := rk_mono m (show i + 1 ≤ j by omega)
  simp only [rk, if_pos hi] at this
  omega
/-- The number of an element's class. -/
def cls (m : List Int) (j : Nat) : Nat := rk m (m.getD j 0).toNat
/-- A row of the table, and the table. -/
def rowS (m : List Int) (wd a k : Nat) : List Int := (List.range k).map fun i => (cls m (a * wd + i) : Int)
def tblS (m : List Int) (wd n : Nat) : List (List Int) := (List.range n).map fun a => rowS m wd a wd
theorem rowS_len (m : List Int) (wd a k : Nat) : (rowS m wd a k).length = k := by simp [rowS]
theorem rowS_succ (m : List Int) (wd a k : Nat) : rowS m wd a (k + 1) = rowS m wd a k ++ [(cls m (a * wd + k) : Int)] := by simp [rowS, List.range_succ]
theorem tblS_succ (m : List Int) (wd n : Nat) : tblS m wd (n + 1) = tblS m wd n ++ [rowS m wd n wd] := by simp [tblS, List.range_succ]
theorem tblS_len (m : List Int) (wd n : Nat) : (tblS m wd n).length = n := by simp [tblS]

/-- A forest with what is said of its cells: marks, signs, roots that are reversed, cells in the boundary. -/
structure FS where
  m : List Int
  ss : Nat → Int
  rv : Nat → Bool
  bd : Nat → Bool
def FS.start (N : Nat) : FS := ⟨fresh N, fun _ => 1, fun _ => false, fun _ => false⟩
def FS.mark (F : FS) (i : Nat) : FS := { F with bd := fun j => if j = i then true else F.bd j }
def FS.join (F : FS) (i k : Nat) (s : Int) : FS :=
  if F.m.getD i 0 = F.m.getD k 0 then { F with rv := fun j => if (j : Int) = F.m.getD i 0 then F.rv j || decide (s * (F.ss i * F.ss k) < 0) else F.rv j }
  else { F with m := jn F.m i k, ss := js F.m F.ss i k s }
theorem FS.join_m (F : FS) (i k : Nat) (s : Int) : (F.join i k s).m = jn F.m i k := by
  unfold FS.join
  split
  · rename_i e; exact (jn_same e).symm
  · rfl
theorem FS.join_bd (F : FS) (i k : Nat) (s : Int) : (F.join i k s).bd = F.bd := by
  unfold FS.join
  split <;> rfl
/-- A permutation's image, an edge's image and the sign of its direction. -/
def gm (p v : Nat) : Nat := ((P4.im p).getD v 0).toNat
def eN (e : Nat) : Nat × Nat := ((Eg.end0 e).toNat, (Eg.end1 e).toNat)
def eB (p e : Nat) : Nat := (Eg.nb (gm p (eN e).1) (gm p (eN e).2)).toNat
def eS (p e : Nat) : Int := if gm p (eN e).1 < gm p (eN e).2 then 1 else -1
theorem gm_all : ∀ p : Nat, p < 24 → ∀ v : Nat, v < 4 → (P4.im p).getD v 0 = (gm p v : Int) ∧ gm p v < 4 := by decide +kernel
theorem eN_all : ∀ e : Nat, e < 6 → Eg.end0 e = ((eN e).1 : Int) ∧ Eg.end1 e = ((eN e).2 : Int) ∧ (eN e).1 < 4 ∧ (eN e).2 < 4 := by decide +kernel
theorem eB_all : ∀ p : Nat, p < 24 → ∀ e : Nat, e < 6 → Eg.nb (gm p (eN e).1) (gm p (eN e).2) = (eB p e : Int) ∧ eB p e < 6 := by decide +kernel
theorem eS_or (p e : Nat) : eS p e = 1 ∨ eS p e = -1 := by unfold eS; split <;> simp
/-- An edge lies in a face. -/
def inF (e f : Nat) : Bool := decide ((eN e).1 ≠ f) && decide ((eN e).2 ≠ f)
/-- The cells of a boundary face are marked. -/
def vM (F : FS) (a f : Nat) : Nat → FS
  | 0 => F
  | k + 1 => if k = f then vM F a f k else (vM F a f k).mark (4 * a + k)
def eM (F : FS) (a f : Nat) : Nat → FS
  | 0 => F
  | k + 1 => if inF k f then (eM F a f k).mark (6 * a + k) else eM F a f k
/-- The cells of a glued face are joined to those of the other one. -/
def vI (F : FS) (a f tb p : Nat) : Nat → FS
  | 0 => F
  | k + 1 => if k = f then vI F a f tb p k else (vI F a f tb p k).join (4 * a + k) (4 * tb + gm p k) 1
def eI (F : FS) (a f tb p : Nat) : Nat → FS
  | 0 => F
  | k + 1 => if inF k f then (eI F a f tb p k).join (6 * a + k) (6 * tb + eB p k) (eS p k) else eI F a f tb p k
/-- All three forests. -/
structure S3 where
  v : FS
  e : FS
  f : FS
def S3.start (n : Nat) : S3 := ⟨FS.start (4 * n), FS.start (6 * n), FS.start (4 * n)⟩
def step (T : List (List Int)) (S : S3) (a f : Nat) : S3 :=
  if Tr.tt T a f < 0 then ⟨vM S.v a f 4, eM S.e a f 6, S.f.mark (4 * a + f)⟩
  else ⟨vI S.v a f (Tr.tt T a f).toNat (Tr.pp T a f).toNat 4, eI S.e a f (Tr.tt T a f).toNat (Tr.pp T a f).toNat 6, S.f.join (4 * a + f) (4 * (Tr.tt T a f).toNat + gm (Tr.pp T a f).toNat f) 1⟩
def run (T : List (List Int)) {n : Nat} (S : S3) (l : List (Fc.Ix n)) : S3 := l.foldl (fun S x => step T S (x.1 / 4) (x.1 % 4)) S
theorem run_snoc (T : List (List Int)) {n : Nat} (S : S3) (l : List (Fc.Ix n)) (x : Fc.Ix n) : run T S (l ++ [x]) = step T (run T S l) (x.1 / 4) (x.1 % 4) := by simp [run]
/-- After so many faces. -/
def upto (T : List (List Int)) (S : S3) : Nat → S3
  | 0 => S
  | k + 1 => step T (upto T S k) (k / 4) (k % 4)
theorem run_up (T : List (List Int)) {n : Nat} (S : S3) : ∀ k, k ≤ n * 4 → run T S (Fc.up n k) = upto T S k := by
  intro k
  induction k with
  | zero => intro _; rfl
  | succ k ih => intro h; rw [Fc.up_succ (by omega), run_snoc, ih (by omega)]; rfl
/-- The marks alone, as the specification has them. -/
def vJ (m : List Int) (a f tb p : Nat) : Nat → List Int
  | 0 => m
  | k + 1 => if k = f then vJ m a f tb p k else jn (vJ m a f tb p k) (4 * a + k) (4 * tb + gm p k)
def eJ (m : List Int) (a f tb p : Nat) : Nat → List Int
  | 0 => m
  | k + 1 => if inF k f then jn (eJ m a f tb p k) (6 * a + k) (6 * tb + eB p k) else eJ m a f tb p k
theorem vM_m (F : FS) (a f k : Nat) : (vM F a f k).m = F.m := by
  induction k with
  | zero => rfl
  | succ k ih => simp only [vM]; split <;> simp [FS.mark, ih]
theorem eM_m (F : FS) (a f k : Nat) : (eM F a f k).m = F.m := by
  induction k with
  | zero => rfl
  | succ k ih => simp only [eM]; split <;> simp [FS.mark, ih]
theorem vI_m (F : FS) (a f tb p k : Nat) : (vI F a f tb p k).m = vJ F.m a f tb p k := by
  induction k with
  | zero => rfl
  | succ k ih => simp only [vI, vJ]; split
                 · exact ih
                 · rw [FS.join_m, ih]
theorem eI_m (F : FS) (a f tb p k : Nat) : (eI F a f tb p k).m = eJ F.m a f tb p k := by
  induction k with
  | zero => rfl
  | succ k ih => simp only [eI, eJ]; split
                 · rw [FS.join_m, ih]
                 · exact ih
theorem vJ_len (m : List Int) (a f tb p k : Nat) : (vJ m a f tb p k).length = m.length := by
  induction k with
  | zero => rfl
  | succ k ih => simp only [vJ]; split
                 · exact ih
                 · rw [jn_len, ih]
theorem eJ_len (m : List Int) (a f tb p k : Nat) : (eJ m a f tb p k).length = m.length := by
  induction k with
  | zero => rfl
  | succ k ih => simp only [eJ]; split
                 · rw [jn_len, ih]
                 · exact ih
/-- The three lists of marks. -/
structure M3 where
  v : List Int
  e : List Int
  f : List Int
def S3.ms (S : S3) : M3 := ⟨S.v.m, S.e.m, S.f.m⟩
def M3.start (n : Nat) : M3 := ⟨fresh (4 * n), fresh (6 * n), fresh (4 * n)⟩
def mstep (T : List (List Int)) (S : M3) (a f : Nat) : M3 :=
  if Tr.tt T a f < 0 then S
  else ⟨vJ S.v a f (Tr.tt T a f).toNat (Tr.pp T a f).toNat 4, eJ S.e a f (Tr.tt T a f).toNat (Tr.pp T a f).toNat 6, jn S.f (4 * a + f) (4 * (Tr.tt T a f).toNat + gm (Tr.pp T a f).toNat f)⟩
def mupto (T : List (List Int)) (S : M3) : Nat → M3
  | 0 => S
  | k + 1 => mstep T (mupto T S k) (k / 4) (k % 4)
theorem step_ms (T : List (List Int)) (S : S3) (a f : Nat) : (step T S a f).ms = mstep T S.ms a f := by
  unfold step mstep S3.ms
  split
  · simp [vM_m, eM_m, FS.mark]
  · simp [vI_m, eI_m, FS.join_m]
theorem upto_ms (T : List (List Int)) (S : S3) (k : Nat) : (upto T S k).ms = mupto T S.ms k := by
  induction k with
  | zero => rfl
  | succ k ih => simp only [upto, mupto]; rw [step_ms, ih]
theorem start_ms (n : Nat) : (S3.start n).ms = M3.start n := rfl
/-- The marks of a triangulation. -/
def MT (T : List (List Int)) : M3 := mupto T (M3.start T.length) (T.length * 4)
theorem mupto_len (T : List (List Int)) (S : M3) (k : Nat) : (mupto T S k).v.length = S.v.length ∧ (mupto T S k).e.length = S.e.length ∧ (mupto T S k).f.length = S.f.length := by
  induction k with
  | zero => exact ⟨rfl, rfl, rfl⟩
  | succ k ih =>
    simp only [mupto]
    unfold mstep
    split
    · exact ih
    · simp only [vJ_len, eJ_len, jn_len]; exact ih
end Sk
end Go.Proofs.YtjendlfophdfeaaDoor

namespace Go.Proofs.YtjendlfophdfeaaDoor
open Go.RowKit
namespace Sk
/-- A cell of a forest. -/
structure CellAt (w : World) (g i : Nat) (p : Option Addr) (s c : Int) (r b : Bool) : Prop where
  place : w.cell? ⟨g, i * 6, none⟩ = some (.int .i64 (i : Int))
  parent : w.cell? ⟨g, i * 6 + 1, none⟩ = some (.pointer p)
  sign : w.cell? ⟨g, i * 6 + 2, none⟩ = some (.int .i64 s)
  cls : w.cell? ⟨g, i * 6 + 3, none⟩ = some (.int .i64 c)
  rev : w.cell? ⟨g, i * 6 + 4, none⟩ = some (.bool r)
  bnd : w.cell? ⟨g, i * 6 + 5, none⟩ = some (.bool b)
section
variable {w w' : World} {g i j : Nat} {p : Option Addr} {s c : Int} {r b : Bool}
theorem CellAt.keep (h : CellAt w g i p s c r b) (hk : ∀ o, w'.cell? ⟨g, o, none⟩ = w.cell? ⟨g, o, none⟩) : CellAt w' g i p s c r b :=
  ⟨(hk _).trans h.place, (hk _).trans h.parent, (hk _).trans h.sign, (hk _).trans h.cls, (hk _).trans h.rev, (hk _).trans h.bnd⟩
theorem CellAt.other (h : CellAt w g j p s c r b) (hne : j ≠ i) {d : Nat} (hd : d < 6) (u : Value) : CellAt (w.setCell ⟨g, i * 6 + d, none⟩ u) g j p s c r b :=
  ⟨by rw [World.cell?_setCell_other _ _ _ _ (by first | (simp; done) | (simp; omega))]; exact h.place, by rw [World.cell?_setCell_other _ _ _ _ (by first | (simp; done) | (simp; omega))]; exact h.parent, by rw [World.cell?_setCell_other _ _ _ _ (by first | (simp; done) | (simp; omega))]; exact h.sign,
   by rw [World.cell?_setCell_other _ _ _ _ (by first | (simp; done) | (simp; omega))]; exact h.cls, by rw [World.cell?_setCell_other _ _ _ _ (by first | (simp; done) | (simp; omega))]; exact h.rev, by rw [World.cell?_setCell_other _ _ _ _ (by first | (simp; done) | (simp; omega))]; exact h.bnd⟩
theorem CellAt.setBnd (h : CellAt w g i p s c r b) (x : Bool) : CellAt (w.setCell ⟨g, i * 6 + 5, none⟩ (.bool x)) g i p s c r x :=
  ⟨by rw [World.cell?_setCell_other _ _ _ _ (by simp)]; exact h.place, by rw [World.cell?_setCell_other _ _ _ _ (by simp)]; exact h.parent, by rw [World.cell?_setCell_other _ _ _ _ (by simp)]; exact h.sign,
   by rw [World.cell?_setCell_other _ _ _ _ (by simp)]; exact h.cls, by rw [World.cell?_setCell_other _ _ _ _ (by simp)]; exact h.rev, World.cell?_setCell_same _ _ _ h.bnd⟩
theorem CellAt.setRev (h : CellAt w g i p s c r b) (x : Bool) : CellAt (w.setCell ⟨g, i * 6 + 4, none⟩ (.bool x)) g i p s c x b :=
  ⟨by rw [World.cell?_setCell_other _ _ _ _ (by simp)]; exact h.place, by rw [World.cell?_setCell_other _ _ _ _ (by simp)]; exact h.parent, by rw [World.cell?_setCell_other _ _ _ _ (by simp)]; exact h.sign,
   by rw [World.cell?_setCell_other _ _ _ _ (by simp)]; exact h.cls, World.cell?_setCell_same _ _ _ h.rev, by rw [World.cell?_setCell_other _ _ _ _ (by simp)]; exact h.bnd⟩
theorem CellAt.setCls (h : CellAt w g i p s c r b) (x : Int) : CellAt (w.setCell ⟨g, i * 6 + 3, none⟩ (.int .i64 x)) g i p s x r b :=
  ⟨by rw [World.cell?_setCell_other _ _ _ _ (by simp)]; exact h.place, by rw [World.cell?_setCell_other _ _ _ _ (by simp)]; exact h.parent, by rw [World.cell?_setCell_other _ _ _ _ (by simp)]; exact h.sign,
   World.cell?_setCell_same _ _ _ h.cls, by rw [World.cell?_setCell_other _ _ _ _ (by simp)]; exact h.rev, by rw [World.cell?_setCell_other _ _ _ _ (by simp)]; exact h.bnd⟩
theorem CellAt.setSign (h : CellAt w g i p s c r b) (x : Int) : CellAt (w.setCell ⟨g, i * 6 + 2, none⟩ (.int .i64 x)) g i p x c r b :=
  ⟨by rw [World.cell?_setCell_other _ _ _ _ (by simp)]; exact h.place, by rw [World.cell?_setCell_other _ _ _ _ (by simp)]; exact h.parent, World.cell?_setCell_same _ _ _ h.sign,
   by rw [World.cell?_setCell_other _ _ _ _ (by simp)]; exact h.cls, by rw [World.cell?_setCell_other _ _ _ _ (by simp)]; exact h.rev, by rw [World.cell?_setCell_other _ _ _ _ (by simp)]; exact h.bnd⟩
theorem CellAt.setPar (h : CellAt w g i p s c r b) (x : Option Addr) : CellAt (w.setCell ⟨g, i * 6 + 1, none⟩ (.pointer x)) g i x s c r b :=
  ⟨by rw [World.cell?_setCell_other _ _ _ _ (by simp)]; exact h.place, World.cell?_setCell_same _ _ _ h.parent, by rw [World.cell?_setCell_other _ _ _ _ (by simp)]; exact h.sign,
   by rw [World.cell?_setCell_other _ _ _ _ (by simp)]; exact h.cls, by rw [World.cell?_setCell_other _ _ _ _ (by simp)]; exact h.rev, by rw [World.cell?_setCell_other _ _ _ _ (by simp)]; exact h.bnd⟩
end
/-- The pointer to a cell's parent. -/
def ppA (g i q : Nat) : Option Addr := if q = i then none else some ⟨g, q * 6, none⟩
/-- A forest in the block g. -/
structure Fo (w : World) (g N : Nat) (F : FS) (par : Nat → Nat) (sg cl : Nat → Int) : Prop where
  lt : g < w.heap.size
  tree : Tree N F.m F.ss par sg
  cell : ∀ i, i < N → CellAt w g i (ppA g i (par i)) (sg i) (cl i) (F.rv i) (F.bd i)
  free : Free w g
  blk : ∃ ca, w.heap[g]? = some (.cells ca 159 (0, 0))
section
variable {w w' : World} {g N : Nat} {F : FS} {par : Nat → Nat} {sg cl : Nat → Int}
theorem Fo.keep (h : Fo w g N F par sg cl) (hs : w.heap.size ≤ w'.heap.size) (hk : w'.heap[g]? = w.heap[g]?) : Fo w' g N F par sg cl :=
  ⟨Nat.lt_of_lt_of_le h.lt hs, h.tree, fun i hi => (h.cell i hi).keep fun o => World.cell?_of_block (a := ⟨g, o, none⟩) hk, fun o => (World.frozen?_of_block (a := ⟨g, o, none⟩) hk).trans (h.free o), by obtain ⟨ca, e⟩ := h.blk; exact ⟨ca, hk.trans e⟩⟩
theorem Fo.below {B : Nat} (h : Fo w g N F par sg cl) (hb : Below B w w') (hg : g < B) : Fo w' g N F par sg cl := h.keep hb.size (hb.block g hg)
theorem Fo.kept {lo hi : Nat} (h : Fo w g N F par sg cl) (hb : Kept lo hi w w') (hg : ¬ (lo ≤ g ∧ g < hi)) : Fo w' g N F par sg cl := h.keep hb.size (hb.block g h.lt hg)
theorem Fo.drew (h : Fo w g N F par sg cl) : Fo w.drew g N F par sg cl := h.keep (Nat.le_refl _) rfl
theorem Fo.far (h : Fo w g N F par sg cl) {a : Addr} (ha : g ≠ a.block) (u : Value) : Fo (w.setCell a u) g N F par sg cl := h.keep (by simp [World.setCell]) (Below.heap_setCell w a u g ha)
theorem free_set (h : Free w g) (a : Addr) (u : Value) : Free (w.setCell a u) g := fun o => by
  have := h o
  simpa [go_sem] using this
theorem blk_set {t : TypeId} (h : ∃ ca, w.heap[g]? = some (.cells ca t (0, 0))) (o : Nat) (u : Value) : ∃ ca, (w.setCell ⟨g, o, none⟩ u).heap[g]? = some (.cells ca t (0, 0)) := by
  obtain ⟨ca, e⟩ := h
  exact ⟨_, by simp [World.setCell, Array.getElem?_modify, e]; rfl⟩
theorem Fo.setBd (h : Fo w g N F par sg cl) {i : Nat} : Fo (w.setCell ⟨g, i * 6 + 5, none⟩ (.bool true)) g N (F.mark i) par sg cl :=
  ⟨by simpa [World.setCell] using h.lt, h.tree, fun j hj => by
    by_cases e : j = i
    · subst e
      have := (h.cell j hj).setBnd true
      simpa [FS.mark] using this
    · have := (h.cell j hj).other e (d := 5) (by omega) (.bool true)
      simpa [FS.mark, e] using this, free_set h.free _ _, blk_set h.blk _ _⟩
/-- A truth value of a cell's, in the boundary, whatever it is. -/
theorem Fo.setBd' (h : Fo w g N F par sg cl) {i : Nat} (x : Bool) : Fo (w.setCell ⟨g, i * 6 + 5, none⟩ (.bool x)) g N { F with bd := fun j => if j = i then x else F.bd j } par sg cl :=
  ⟨by simpa [World.setCell] using h.lt, h.tree, fun j hj => by
    by_cases e : j = i
    · subst e
      have := (h.cell j hj).setBnd x
      simpa using this
    · have := (h.cell j hj).other e (d := 5) (by omega) (.bool x)
      simpa [e] using this, free_set h.free _ _, blk_set h.blk _ _⟩
theorem Fo.setRv (h : Fo w g N F par sg cl) {i : Nat} (x : Bool) : Fo (w.setCell ⟨g, i * 6 + 4, none⟩ (.bool x)) g N { F with rv := fun j => if j = i then x else F.rv j } par sg cl :=
  ⟨by simpa [World.setCell] using h.lt, h.tree, fun j hj => by
    by_cases e : j = i
    · subst e
      have := (h.cell j hj).setRev x
      simpa using this
    · have := (h.cell j hj).other e (d := 4) (by omega) (.bool x)
      simpa [e] using this, free_set h.free _ _, blk_set h.blk _ _⟩
theorem Fo.setCl (h : Fo w g N F par sg cl) {i : Nat} (x : Int) : Fo (w.setCell ⟨g, i * 6 + 3, none⟩ (.int .i64 x)) g N F par sg (fun j => if j = i then x else cl j) :=
  ⟨by simpa [World.setCell] using h.lt, h.tree, fun j hj => by
    by_cases e : j = i
    · subst e
      have := (h.cell j hj).setCls x
      simpa using this
    · have := (h.cell j hj).other e (d := 3) (by omega) (.int .i64 x)
      simpa [e] using this, free_set h.free _ _, blk_set h.blk _ _⟩
/-- A root is laid below another one. -/
theorem Fo.setUp (h : Fo w g N F par sg cl) {i k : Nat} (hi : i < N) (hk : k < N) (hne : F.m.getD i 0 ≠ F.m.getD k 0) {s : Int} (hs : s = 1 ∨ s = -1) {lo hi' : Nat} (hlo : min (F.m.getD i 0) (F.m.getD k 0) = lo) (hhi : max (F.m.getD i 0) (F.m.getD k 0) = hi') :
    Fo ((w.setCell ⟨g, hi' * 6 + 1, none⟩ (.pointer (some ⟨g, lo * 6, none⟩))).setCell ⟨g, hi' * 6 + 2, none⟩ (.int .i64 (s * (F.ss i * F.ss k)))) g N (F.join i k s) (fun j => if j = hi' then lo else par j) (fun j => if j = hi' then s * (F.ss i * F.ss k) else sg j) cl := by
  have e : F.join i k s = { F with m := jn F.m i k, ss := js F.m F.ss i k s } := by unfold FS.join; rw [if_neg hne]
  rw [e]
  refine ⟨by simpa [World.setCell] using h.lt, h.tree.join hi hk hne hs hlo hhi, fun j hj => ?_, free_set (free_set h.free _ _) _ _, blk_set (blk_set h.blk _ _) _ _⟩
  by_cases e : j = hi'
  · subst e
    have := ((h.cell j hj).setPar (some ⟨g, lo * 6, none⟩)).setSign (s * (F.ss i * F.ss k))
    have hn : ¬ lo = j := by omega
    simpa [ppA, hn] using this
  · have := ((h.cell j hj).other e (d := 1) (by omega) (.pointer (some ⟨g, lo * 6, none⟩))).other e (d := 2) (by omega) (.int .i64 (s * (F.ss i * F.ss k)))
    simpa [e] using this
end
/-- Some forest of this state. -/
def FoE (w : World) (g N : Nat) (F : FS) (cl : Nat → Int) : Prop := ∃ par sg, Fo w g N F par sg cl
theorem FoE.below {w w' : World} {g N B : Nat} {F : FS} {cl : Nat → Int} (h : FoE w g N F cl) (hb : Below B w w') (hg : g < B) : FoE w' g N F cl := by
  obtain ⟨p, s, h⟩ := h; exact ⟨p, s, h.below hb hg⟩
theorem FoE.kept {w w' : World} {g N lo hi : Nat} {F : FS} {cl : Nat → Int} (h : FoE w g N F cl) (hb : Kept lo hi w w') (hg : ¬ (lo ≤ g ∧ g < hi)) : FoE w' g N F cl := by
  obtain ⟨p, s, h⟩ := h; exact ⟨p, s, h.kept hb hg⟩
theorem FoE.lt {w : World} {g N : Nat} {F : FS} {cl : Nat → Int} (h : FoE w g N F cl) : g < w.heap.size := by obtain ⟨p, s, h⟩ := h; exact h.lt
end Sk
end Go.Proofs.YtjendlfophdfeaaDoor

namespace Go.Proofs.YtjendlfophdfeaaDoor
open Go.RowKit
namespace Sk
/-- The box of a forest. -/
def BoxF (w : World) (fb g N wd : Nat) (A : Option Addr) (n c : Nat) : Prop := Box3 w fb (.int .i64 (wd : Int)) (.slice (some ⟨g, 0, none⟩) N N) (.slice A n c)
set_option maxRecDepth 100000 in
set_option maxHeartbeats 4000000 in
theorem at_impl (fb g N wd a v : Nat) (A : Option Addr) (n c : Nat) (w : World) (h : BoxF w fb g N wd A n c) (hN : a * wd + v < N) (hN2 : N ≤ 1048576) :
    Calls Tryd.prog 188 #[.pointer (some ⟨fb, 0, none⟩), .int .i64 (a : Int), .int .i64 (v : Int)] w fun e w' => e = .returned (.pointer (some ⟨g, (a * wd + v) * 6, none⟩)) ∧ ∃ k, w' = w.drewN k := by
  obtain ⟨k0, k1, k2⟩ := h
  obtain ⟨x, hx⟩ : ∃ x, a * wd = x := ⟨_, rfl⟩
  have X := Lib.hid hx
  have e1 : (a : Int) * (wd : Int) = (x : Int) := by rw [← hx]; simp
  have e2 : IntKind.i64.wrap ((a : Int) * (wd : Int)) = (x : Int) := by rw [e1]; exact IntWalk.i64_in _ (by omega)
  have e3 : IntKind.i64.wrap ((x : Int) + (v : Int)) = (x : Int) + (v : Int) := IntWalk.i64_in _ (by omega)
  have i0 : (0 : Int) ≤ (x : Int) + (v : Int) := by omega
  have i1 : (x : Int) + (v : Int) < (N : Int) := by omega
  have i2 : ((x : Int) + (v : Int)).toNat = x + v := by omega
  clear hx e1 hN
  go_enter Tryd.func188, Tryd.ntmps188
  go_upto_region 1 with fail
  go_quiet (fail)
  go_wp2
  go_ret
  exact ⟨by rw [X.out]; rfl, _, rfl⟩
/-- What a climb leaves. -/
def Clm (g sb r : Nat) (s : Int) (w : World) (e : Ending) (w' : World) : Prop := e = .returned (.pointer (some ⟨g, r * 6, none⟩)) ∧ Blk w' sb [s] ∧ Kept sb (sb + 1) w w'
theorem Clm.from {g sb r : Nat} {s : Int} {w v w' : World} {e : Ending} (h : Clm g sb r s v e w') (hk : Kept sb (sb + 1) w v) : Clm g sb r s w e w' := ⟨h.1, h.2.1, hk.trans h.2.2⟩
set_option maxRecDepth 100000 in
set_option maxHeartbeats 4000000 in
theorem climb_impl (g N sb cb : Nat) (F : FS) (par : Nat → Nat) (sg cl : Nat → Int) (h1 : g ≠ sb) (h2 : cb ≠ sb) : ∀ i, i < N → ∀ (s : Int) (w : World), (s = 1 ∨ s = -1) → Fo w g N F par sg cl → Blk w sb [s] → cb < w.heap.size →
    w.cell? ⟨cb, 0, none⟩ = some (.func (.func 192) #[] #[.pointer (some ⟨sb, 0, none⟩), .pointer (some ⟨cb, 0, none⟩)]) →
    Calls Tryd.prog 192 #[.pointer (some ⟨g, i * 6, none⟩), .pointer (some ⟨sb, 0, none⟩), .pointer (some ⟨cb, 0, none⟩)] w (Clm g sb (F.m.getD i 0).toNat (s * F.ss i) w) := by
  intro i
  induction i using Nat.strongRecOn with
  | ind i ih =>
    intro hi s w hs hF hb hcb hc
    have hce := hF.cell i hi
    have c1 := hce.parent
    have c2 := hce.sign
    have b0 : w.cell? ⟨sb, 0, none⟩ = some (.int .i64 s) := hb.cell (i := 0) (by simp)
    have b1 : w.frozen? ⟨sb, 0, none⟩ = false := hb.frozen 0
    clear hce
    by_cases e : par i = i
    · obtain ⟨t1, t2⟩ := hF.tree.top i hi e
      have R := Lib.hid (show (F.m.getD i 0).toNat = i ∧ s * F.ss i = s from ⟨by omega, by rw [t2]; simp⟩)
      have B := Lib.hid hb
      rw [show ppA g i (par i) = none from by unfold ppA; rw [if_pos e]] at c1
      clear t1 t2 e hb hF hs ih
      go_enter Tryd.func192, Tryd.ntmps192
      go_wp2
      go_ret
      exact ⟨by rw [R.out.1]; rfl, by rw [R.out.2]; exact B.out, Kept.refl _ _ _⟩
    · obtain ⟨t1, t2, t3, t4⟩ := hF.tree.up i hi e
      rw [show ppA g i (par i) = some ⟨g, par i * 6, none⟩ from by unfold ppA; rw [if_neg e]] at c1
      obtain ⟨q, hq⟩ : ∃ q, par i = q := ⟨_, rfl⟩
      obtain ⟨t, ht⟩ : ∃ t, sg i = t := ⟨_, rfl⟩
      obtain ⟨x, hx⟩ : ∃ x, s * t = x := ⟨_, rfl⟩
      rw [hq] at t1 t2 t3 c1
      rw [ht] at t3 t4 c2
      have hx1 : x = 1 ∨ x = -1 := by rw [← hx]; rcases hs with e | e <;> rcases t4 with f | f <;> rw [e, f] <;> simp
      have X := Lib.hid (show x = 1 ∨ x = -1 from hx1)
      have E := Lib.hid (show s * F.ss i = x * F.ss q from by rw [t3, ← hx, Int.mul_assoc])
      have M := Lib.hid t2
      have PQ := Lib.hid (show ppA g i (par i) = some ⟨g, q * 6, none⟩ from by unfold ppA; rw [if_neg e, hq])
      have m0 : IntKind.i64.wrap (s * t) = x := by rw [hx]; exact IntWalk.i64_in _ (by omega)
      have FF := Lib.hid hF
      have BB := Lib.hid hb
      have Q := Lib.hid (show q < i from t1)
      clear t1 t2 t3 t4 hx1 hx ht hq e hs hF hb
      go_enter Tryd.func192, Tryd.ntmps192
      go_upto_region 3 with fail
      go_region
      obtain ⟨U, hU⟩ : ∃ U, U = (w.setCell ⟨sb, 0, none⟩ (.int .i64 x)).drew := ⟨_, rfl⟩
      have KU := Lib.hid (show Kept sb (sb + 1) w U from by rw [hU]; exact ((Kept.refl _ _ _).set_ (p := ⟨sb, 0, none⟩) (Nat.le_refl _) (Nat.lt_succ_self _) _).drewN 1)
      have BU := Lib.hid (show Blk U sb [x] from by rw [hU]; exact BB.out.set_ 0 x)
      have FU := Lib.hid (FF.out.kept KU.out (by omega))
      have hc : U.cell? ⟨cb, 0, none⟩ = some (.func (.func 192) #[] #[.pointer (some ⟨sb, 0, none⟩), .pointer (some ⟨cb, 0, none⟩)]) := (World.cell?_of_block (a := ⟨cb, 0, none⟩) (KU.out.block cb hcb (by omega))).trans hc
      have c1 := (FU.out.cell i hi).parent
      rw [PQ.out] at c1
      have zU : cb < U.heap.size := Nat.lt_of_lt_of_le hcb KU.out.size
      have CALL := Lib.hid (fun V : World => ih q Q.out (by have := Q.out; omega) x V X.out)
      rw [← hU]
      clear hU b0 b1 c2 m0 FF BB X ih
      go_upto_region 4 with fail
      go_still_tail 5, (by kernel_rfl)
      change wpList _ _ _ _ _ U.drew
      have FV := Lib.hid FU.out.drew
      have BV := Lib.hid (show Blk U.drew sb [x] from BU.out)
      have zV : cb < U.drew.heap.size := zU
      have hcV : U.drew.cell? ⟨cb, 0, none⟩ = some (.func (.func 192) #[] #[.pointer (some ⟨sb, 0, none⟩), .pointer (some ⟨cb, 0, none⟩)]) := hc
      have KV := Lib.hid (KU.out.drewN 1)
      go_wp2_with fail
      (with_reducible refine (CALL.out _ FV.out BV.out zV hcV).mono ?_)
      rintro e' w' ⟨rfl, hb7, hk7⟩
      have B7 := Lib.hid hb7
      have K7 := Lib.hid (KV.out.trans hk7)
      clear hb7 hk7
      go_wp2
      go_ret
      exact ⟨by rw [M.out]; rfl, by rw [E.out]; exact B7.out, K7.out⟩
end Sk
end Go.Proofs.YtjendlfophdfeaaDoor

namespace Go.Proofs.YtjendlfophdfeaaDoor
open Go.RowKit
namespace Sk
set_option maxRecDepth 100000 in
set_option maxHeartbeats 4000000 in
theorem root_impl (g N i : Nat) (F : FS) (par : Nat → Nat) (sg cl : Nat → Int) (w : World) (h : Fo w g N F par sg cl) (hi : i < N) :
    Calls Tryd.prog 164 #[.pointer (some ⟨g, i * 6, none⟩)] w fun e w' => e = .returned (.tuple #[.pointer (some ⟨g, (F.m.getD i 0).toNat * 6, none⟩), .int .i64 (F.ss i)]) ∧ Below w.heap.size w w' := by
  have hg := h.lt
  have H := Lib.hid h
  clear h
  obtain ⟨U, hU⟩ : ∃ U, U = (w.alloc (Obj.cells #[.int .i64 1] 2)).alloc (Obj.cells #[.func (.func 192) #[] #[.pointer (some ⟨w.heap.size, 0, none⟩), .pointer (some ⟨w.heap.size + 1, 0, none⟩)]] 238) := ⟨_, rfl⟩
  have DU := Lib.hid (show Below w.heap.size w U from by rw [hU]; exact al2 w _ _)
  have BU := Lib.hid (show Blk U w.heap.size [1] from by rw [hU]; exact (Blk.new w [1]).alloc _)
  have FU := Lib.hid (H.out.below DU.out hg)
  have cU : U.cell? ⟨w.heap.size + 1, 0, none⟩ = some (.func (.func 192) #[] #[.pointer (some ⟨w.heap.size, 0, none⟩), .pointer (some ⟨w.heap.size + 1, 0, none⟩)]) := by rw [hU]; simp [go_sem]
  obtain ⟨z, zb⟩ : U.heap.size ≤ w.heap.size + 2 ∧ w.heap.size + 2 ≤ U.heap.size := by rw [hU]; simp
  have CALL := Lib.hid (climb_impl g N w.heap.size (w.heap.size + 1) F par sg cl (by omega) (by omega) i hi 1 U (.inl rfl) FU.out BU.out (by omega) cU)
  clear H
  go_enter Tryd.func164, Tryd.ntmps164
  go_upto_region 4 with fail
  rw [← hU]
  clear hU
  go_wp2_with fail
  (with_reducible refine CALL.out.mono ?_)
  rintro e w' ⟨rfl, hb7, hk7⟩
  have b0 : w'.cell? ⟨w.heap.size, 0, none⟩ = some (.int .i64 (F.ss i)) := by have := hb7.cell (i := 0) (by simp); simpa using this
  have D7 := Lib.hid (DU.out.trans (hk7.below (B := w.heap.size) (Nat.le_refl _) (by omega)))
  clear hb7 hk7 CALL
  go_upto_region 5 with fail
  go_quiet (fail)
  go_wp2
  refine bodyPost_ret (v := .tuple #[.pointer (some ⟨g, (F.m.getD i 0).toNat * 6, none⟩), .int .i64 (F.ss i)]) (by simp [results, Tryd.results164, go_sem]) rfl ?_
  exact ⟨rfl, below_drewN D7.out _⟩
theorem eqIn_same (d : Nat) (p : Option Addr) (w : World) : (Op.equalIn (d + 1) 157 (.pointer p) (.pointer p)).run Tryd.prog w = .ok true w := by
  have hi : ((Tryd.prog.info? 159).map (·.size)) = some 6 := by kernel_rfl
  obtain ⟨j, hj, -⟩ := Option.map_eq_some_iff.1 hi
  cases p <;> simp [Op.equalIn, run_underlying Tryd.underlying157, typeInfo, hj, sizeOf, run_sameAddr_same]
theorem eqIn_other (d : Nat) {g a b : Nat} {w : World} {ca : Array Value} {t : TypeId} (h : w.heap[g]? = some (.cells ca t (0, 0))) (hne : a ≠ b) : (Op.equalIn (d + 1) 157 (.pointer (some ⟨g, a, none⟩)) (.pointer (some ⟨g, b, none⟩))).run Tryd.prog w = .ok false w := by
  have hn : (⟨g, a, none⟩ : Addr) ≠ ⟨g, b, none⟩ := fun e => hne (by injection e)
  have hi : ((Tryd.prog.info? 159).map (·.size)) = some 6 := by kernel_rfl
  obtain ⟨j, hj, hs⟩ := Option.map_eq_some_iff.1 hi
  simp [Op.equalIn, run_underlying Tryd.underlying157, typeInfo, hj, hs, sizeOf, run_sameAddr_other w hn h h]
theorem eql_same (p : Option Addr) (w : World) : (binOp .eql 157 (.pointer p) (.pointer p)).run Tryd.prog w = .ok (.bool true) w := by
  simp only [binOp]
  simp [Op.equal, Op.maxDepth, eqIn_same 9999]
theorem eql_other {g a b : Nat} {w : World} {ca : Array Value} {t : TypeId} (h : w.heap[g]? = some (.cells ca t (0, 0))) (hne : a ≠ b) : (binOp .eql 157 (.pointer (some ⟨g, a, none⟩)) (.pointer (some ⟨g, b, none⟩))).run Tryd.prog w = .ok (.bool false) w := by
  simp only [binOp]
  simp [Op.equal, Op.maxDepth, eqIn_other 9999 h hne]
theorem wrap_one {x y z : Int} (hx : x = 1 ∨ x = -1) (hy : y = 1 ∨ y = -1) (hz : x * y = z) : IntKind.i64.wrap (x * y) = z ∧ (z = 1 ∨ z = -1) := by
  have : z = 1 ∨ z = -1 := by rw [← hz]; rcases hx with e | e <;> rcases hy with f | f <;> rw [e, f] <;> simp
  exact ⟨by rw [hz]; exact IntWalk.i64_in _ (by omega), this⟩
set_option maxRecDepth 100000 in
set_option maxHeartbeats 8000000 in
theorem join_impl (g N i k : Nat) (s : Int) (F : FS) (cl : Nat → Int) (w : World) (h : FoE w g N F cl) (hi : i < N) (hk : k < N) (hs : s = 1 ∨ s = -1) :
    Calls Tryd.prog 190 #[.pointer (some ⟨g, i * 6, none⟩), .pointer (some ⟨g, k * 6, none⟩), .int .i64 s] w fun e w' => e = .returned (.tuple #[]) ∧ FoE w' g N (F.join i k s) cl ∧ Kept g (g + 1) w w' := by
  obtain ⟨par, sg, h⟩ := h
  have hg := h.lt
  obtain ⟨a, ha, ha1, ha2, ha3⟩ := h.tree.root i hi
  obtain ⟨b, hb, hb1, hb2, hb3⟩ := h.tree.root k hk
  have sx := h.tree.sgn i hi
  have sy := h.tree.sgn k hk
  obtain ⟨x, hx⟩ : ∃ x, F.ss i = x := ⟨_, rfl⟩
  obtain ⟨y, hy⟩ : ∃ y, F.ss k = y := ⟨_, rfl⟩
  rw [hx] at sx
  rw [hy] at sy
  obtain ⟨p, hp⟩ : ∃ p, x * y = p := ⟨_, rfl⟩
  obtain ⟨m0, hp1⟩ := wrap_one sx sy hp
  obtain ⟨q, hq⟩ : ∃ q, s * p = q := ⟨_, rfl⟩
  obtain ⟨m1, hq1⟩ := wrap_one hs hp1 hq
  have Q := Lib.hid (show s * (F.ss i * F.ss k) = q from by rw [hx, hy, hp, hq])
  have R1 := Lib.hid (fun (W : World) (hb : Below w.heap.size w W) => (show Calls Tryd.prog 164 #[.pointer (some ⟨g, i * 6, none⟩)] W fun e w' => e = .returned (.tuple #[.pointer (some ⟨g, a * 6, none⟩), .int .i64 x]) ∧ Below W.heap.size W w' from by
    have := root_impl g N i F par sg cl W (h.below hb hg) hi
    rw [ha, hx, Int.toNat_natCast] at this; exact this))
  have R2 := Lib.hid (fun (W : World) (hb' : Below w.heap.size w W) => (show Calls Tryd.prog 164 #[.pointer (some ⟨g, k * 6, none⟩)] W fun e w' => e = .returned (.tuple #[.pointer (some ⟨g, b * 6, none⟩), .int .i64 y]) ∧ Below W.heap.size W w' from by
    have := root_impl g N k F par sg cl W (h.below hb' hg) hk
    rw [hb, hy, Int.toNat_natCast] at this; exact this))
  have H := Lib.hid h
  have MA := Lib.hid ha
  have MB := Lib.hid hb
  have QS := Lib.hid hq1
  have aN : a < N := by omega
  have bN : b < N := by omega
  clear h ha hb hx hy hp hq sx sy hp1 hq1 ha1 hb1 ha2 hb2 ha3 hb3
  have HS := Lib.hid hs
  clear hs
  go_enter Tryd.func190, Tryd.ntmps190
  go_wp2_with fail
  (with_reducible refine (R1.out _ (Below.refl _ _)).mono ?_)
  rintro e w1 ⟨rfl, hw1⟩
  have D1 := Lib.hid hw1
  clear hw1
  go_wp2_with fail
  (with_reducible refine (R2.out _ D1.out).mono ?_)
  rintro e w2 ⟨rfl, hw2⟩
  have D2 := Lib.hid (D1.out.trans (hw2.mono D1.out.size))
  have K2 := Lib.hid ((Kept.of_below D1.out g (g + 1)).trans (Kept.of_below hw2 g (g + 1)))
  have F2 := Lib.hid (H.out.below D2.out hg)
  clear hw2 R1 R2 D1 H
  by_cases hab : a = b
  · subst hab
    have PE := eql_same (some ⟨g, a * 6, none⟩) w2
    have hce := F2.out.cell a aN
    have c4 := hce.rev
    have f4 := F2.out.free (a * 6 + 4)
    have J := Lib.hid (show F.join i k s = { F with rv := fun j => if j = a then F.rv a || decide (q < 0) else F.rv j } from by
      unfold FS.join
      rw [if_pos (by rw [MA.out, MB.out]), Q.out, MA.out]
      congr 1
      funext j
      by_cases e : j = a
      · subst e; simp
      · rw [if_neg (by omega), if_neg e])
    have KS := Lib.hid (fun u => K2.out.set_ (p := ⟨g, a * 6 + 4, none⟩) (Nat.le_refl _) (Nat.lt_succ_self _) u)
    clear hce
    obtain ⟨r, hr⟩ : ∃ r, F.rv a = r := ⟨_, rfl⟩
    rw [hr] at c4 J
    have SR := Lib.hid (fun x => F2.out.setRv (i := a) x)
    clear hr
    cases r
    · by_cases hq0 : q < 0
      · have t0 : decide (q < 0) = true := by simpa using hq0
        rw [t0] at J
        go_wp2
        refine bodyPost_ret (results_none rfl _ _ _) rfl ?_
        exact ⟨rfl, by rw [J.out]; exact ⟨par, sg, SR.out true⟩, KS.out _⟩
      · have t0 : decide (q < 0) = false := by simpa using hq0
        rw [t0] at J
        go_wp2
        refine bodyPost_ret (results_none rfl _ _ _) rfl ?_
        exact ⟨rfl, by rw [J.out]; exact ⟨par, sg, SR.out false⟩, KS.out _⟩
    · go_wp2
      refine bodyPost_ret (results_none rfl _ _ _) rfl ?_
      exact ⟨rfl, by rw [J.out]; exact ⟨par, sg, SR.out true⟩, KS.out _⟩
  · have ne : ¬ a * 6 = b * 6 := by omega
    obtain ⟨_, hblk⟩ := F2.out.blk
    have PE := eql_other hblk ne
    clear hblk
    have hca := (F2.out.cell a aN).place
    have hcb := (F2.out.cell b bN).place
    have UP := Lib.hid (fun (n lo hi' : Nat) => (F2.out.keep (w' := w2.drewN n) (Nat.le_refl _) rfl).setUp hi hk (s := s) (lo := lo) (hi' := hi') (by rw [MA.out, MB.out]; omega) HS.out)
    rw [Q.out, MA.out, MB.out] at UP
    rcases (show a < b ∨ b < a from by omega) with hlt | hlt
    · have t0 : decide (b < a) = false := by simp; omega
      have hp1 := (F2.out.cell b bN).parent
      have hp2 := (F2.out.cell b bN).sign
      have f1 := F2.out.free (b * 6 + 1)
      have f2 := F2.out.free (b * 6 + 2)
      have UQ := Lib.hid (fun n => UP.out n a b (by omega) (by omega))
      have KS := Lib.hid (fun n u v => ((K2.out.drewN n).set_ (p := ⟨g, b * 6 + 1, none⟩) (Nat.le_refl _) (Nat.lt_succ_self _) u).set_ (p := ⟨g, b * 6 + 2, none⟩) (Nat.le_refl _) (Nat.lt_succ_self _) v)
      clear UP
      go_upto_region 5 with fail
      go_quiet (fail)
      go_wp2
      refine bodyPost_end (results_none rfl _ _ _) rfl ?_
      exact ⟨rfl, ⟨_, _, UQ.out _⟩, KS.out _ _ _⟩
    · have t0 : decide (b < a) = true := by simp; omega
      have hp1 := (F2.out.cell a aN).parent
      have hp2 := (F2.out.cell a aN).sign
      have f1 := F2.out.free (a * 6 + 1)
      have f2 := F2.out.free (a * 6 + 2)
      have UQ := Lib.hid (fun n => UP.out n b a (by omega) (by omega))
      have KS := Lib.hid (fun n u v => ((K2.out.drewN n).set_ (p := ⟨g, a * 6 + 1, none⟩) (Nat.le_refl _) (Nat.lt_succ_self _) u).set_ (p := ⟨g, a * 6 + 2, none⟩) (Nat.le_refl _) (Nat.lt_succ_self _) v)
      clear UP
      go_upto_region 5 with fail
      go_quiet (fail)
      go_wp2
      refine bodyPost_end (results_none rfl _ _ _) rfl ?_
      exact ⟨rfl, ⟨_, _, UQ.out _⟩, KS.out _ _ _⟩
end Sk
end Go.Proofs.YtjendlfophdfeaaDoor

namespace Go.Proofs.YtjendlfophdfeaaDoor
open Go.RowKit
namespace Sk
theorem infoC : (Tryd.prog.info? 159).map (fun i => (i.zero, i.size, i.bytes)) = some (some (.agg #[.int .i64 0, .pointer none, .int .i64 0, .int .i64 0, .bool false, .bool false]), 6, 40) := by kernel_rfl
/-- The cells of fresh elements. -/
def zC : Array Value := #[.int .i64 0, .pointer none, .int .i64 0, .int .i64 0, .bool false, .bool false]
theorem run_make_cellsC (n : Nat) (hn : n ≤ 1000) (w : World) :
    (Instr.makeSlice 152 (.int .i64 (n : Int)) (.int .i64 (n : Int))).run Tryd.prog w = .ok (.slice (some ⟨w.heap.size, 0, none⟩) n n) (w.alloc (.cells (madeCells zC (n * 6)) 159)) := by
  obtain ⟨i0, hi, hz0, hz1, hz2⟩ := info_parts infoC
  have hr := run_make (P := Tryd.prog) w 152 159 i0 _ Tryd.underlying152 hi hz0 .i64 .i64 n n (by omega) (by omega) (by rw [hz2]; omega) (by omega)
  simp only [Int.toNat_natCast] at hr
  rw [hz1] at hr
  have e : (Value.agg #[.int .i64 0, .pointer none, .int .i64 0, .int .i64 0, .bool false, .bool false]).cells = zC := by simp [Value.cells, zC]
  rw [e] at hr
  exact hr
/-- Fresh cells, the first j with their places. -/
structure Fz (w : World) (g N j : Nat) : Prop where
  lt : g < w.heap.size
  place : ∀ i, i < N → w.cell? ⟨g, i * 6, none⟩ = some (.int .i64 (if i < j then (i : Int) else 0))
  parent : ∀ i, i < N → w.cell? ⟨g, i * 6 + 1, none⟩ = some (.pointer none)
  sign : ∀ i, i < N → w.cell? ⟨g, i * 6 + 2, none⟩ = some (.int .i64 0)
  cls : ∀ i, i < N → w.cell? ⟨g, i * 6 + 3, none⟩ = some (.int .i64 0)
  rev : ∀ i, i < N → w.cell? ⟨g, i * 6 + 4, none⟩ = some (.bool false)
  bnd : ∀ i, i < N → w.cell? ⟨g, i * 6 + 5, none⟩ = some (.bool false)
  free : Free w g
  blk : ∃ ca, w.heap[g]? = some (.cells ca 159 (0, 0))
theorem Fz.new (w : World) (n : Nat) : Fz (w.alloc (.cells (madeCells zC (n * 6)) 159)) w.heap.size n 0 := by
  have hb : (w.alloc (.cells (madeCells zC (n * 6)) 159)).heap[w.heap.size]? = some (.cells (madeCells zC (n * 6)) 159 (0, 0)) := heap_alloc_new w _
  have at_ : ∀ i d, i < n → d < 6 → (w.alloc (.cells (madeCells zC (n * 6)) 159)).cell? ⟨w.heap.size, i * 6 + d, none⟩ = some (zC[d]!) := fun i d hi hd => by
    rw [cell_of_row _ w.heap.size (i * 6 + d) _ _ (0, 0) hb]
    have h1 : i * 6 + d < n * 6 := by omega
    have h2 : (i * 6 + d) % 6 = d := by omega
    simp [madeCells, h1, zC, h2]
  refine ⟨by simp, fun i hi => ?_, fun i hi => at_ i 1 hi (by omega), fun i hi => at_ i 2 hi (by omega), fun i hi => at_ i 3 hi (by omega), fun i hi => at_ i 4 hi (by omega), fun i hi => at_ i 5 hi (by omega), Free.new w _ _, _, hb⟩
  rw [if_neg (by omega)]
  exact at_ i 0 hi (by omega)
theorem Fz.keep {w w' : World} {g N j : Nat} (h : Fz w g N j) (hs : w.heap.size ≤ w'.heap.size) (hk : w'.heap[g]? = w.heap[g]?) : Fz w' g N j := by
  have c : ∀ o, w'.cell? ⟨g, o, none⟩ = w.cell? ⟨g, o, none⟩ := fun o => World.cell?_of_block (a := ⟨g, o, none⟩) hk
  exact ⟨Nat.lt_of_lt_of_le h.lt hs, fun i hi => (c _).trans (h.place i hi), fun i hi => (c _).trans (h.parent i hi), fun i hi => (c _).trans (h.sign i hi), fun i hi => (c _).trans (h.cls i hi), fun i hi => (c _).trans (h.rev i hi), fun i hi => (c _).trans (h.bnd i hi),
    fun o => (World.frozen?_of_block (a := ⟨g, o, none⟩) hk).trans (h.free o), by obtain ⟨ca, e⟩ := h.blk; exact ⟨ca, hk.trans e⟩⟩
theorem Fz.below {w w' : World} {g N j B : Nat} (h : Fz w g N j) (hb : Below B w w') (hg : g < B) : Fz w' g N j := h.keep hb.size (hb.block g hg)
theorem Fz.next {w : World} {g N j : Nat} (h : Fz w g N j) (hj : j < N) : Fz (w.setCell ⟨g, j * 6, none⟩ (.int .i64 (j : Int))) g N (j + 1) := by
  have o : ∀ i d, d < 6 → d ≠ 0 → (w.setCell ⟨g, j * 6, none⟩ (.int .i64 (j : Int))).cell? ⟨g, i * 6 + d, none⟩ = w.cell? ⟨g, i * 6 + d, none⟩ := fun i d hd h0 =>
    World.cell?_setCell_other _ _ _ _ (by first | (simp; done) | (simp; omega))
  refine ⟨by simpa [World.setCell] using h.lt, fun i hi => ?_, fun i hi => (o i 1 (by omega) (by omega)).trans (h.parent i hi), fun i hi => (o i 2 (by omega) (by omega)).trans (h.sign i hi), fun i hi => (o i 3 (by omega) (by omega)).trans (h.cls i hi), fun i hi => (o i 4 (by omega) (by omega)).trans (h.rev i hi), fun i hi => (o i 5 (by omega) (by omega)).trans (h.bnd i hi), free_set h.free _ _, blk_set h.blk _ _⟩
  by_cases e : i = j
  · subst e
    rw [if_pos (by omega)]
    exact World.cell?_setCell_same _ _ _ (h.place i hi)
  · rw [World.cell?_setCell_other _ _ _ _ (by first | (simp; done) | (simp; omega)), h.place i hi]
    by_cases e2 : i < j
    · rw [if_pos e2, if_pos (by omega)]
    · rw [if_neg e2, if_neg (by omega)]
theorem Fz.fo {w : World} {g N : Nat} (h : Fz w g N N) : FoE w g N (FS.start N) (fun _ => 0) :=
  ⟨fun i => i, fun _ => 0, h.lt, Tree.start N _, fun i hi => ⟨by have := h.place i hi; rwa [if_pos hi] at this, by rw [show ppA g i i = none from if_pos rfl]; exact h.parent i hi, h.sign i hi, h.cls i hi, h.rev i hi, h.bnd i hi⟩, h.free, h.blk⟩
/-- What newForest leaves. -/
def NewF (N wd : Nat) (w : World) (e : Ending) (w' : World) : Prop :=
  e = .returned (.pointer (some ⟨w.heap.size + 1, 0, none⟩)) ∧ BoxF w' (w.heap.size + 1) w.heap.size N wd none 0 0 ∧ Free w' (w.heap.size + 1) ∧ FoE w' w.heap.size N (FS.start N) (fun _ => 0) ∧ (w'.heap.size ≤ w.heap.size + 2 ∧ w.heap.size + 2 ≤ w'.heap.size) ∧ Below w.heap.size w w'
set_option maxRecDepth 100000 in
set_option maxHeartbeats 4000000 in
theorem newForest_impl (n wd N : Nat) (w : World) (hn : n ≤ 8) (hw : wd ≤ 6) (hN : wd * n = N) :
    Calls Tryd.prog 159 #[.int .i64 (n : Int), .int .i64 (wd : Int)] w (NewF N wd w) := by
  have n48 : N ≤ 48 := by rw [← hN]; exact Nat.mul_le_mul hw hn
  have e1 : (n : Int) * (wd : Int) = (N : Int) := by rw [← hN]; simp [Int.mul_comm]
  have e2 : IntKind.i64.wrap ((n : Int) * (wd : Int)) = (N : Int) := by rw [e1]; exact IntWalk.i64_in _ (by omega)
  have MK := run_make_cellsC N (by omega) w
  clear e1 hN
  obtain ⟨V, hV⟩ : ∃ V, V = (w.alloc (.cells (madeCells zC (N * 6)) 159)).alloc (Obj.cells #[.int .i64 (wd : Int), .slice (some ⟨w.heap.size, 0, none⟩) N N, .slice none 0 0] 155) := ⟨_, rfl⟩
  have ZV := Lib.hid (show Fz V w.heap.size N 0 from by rw [hV]; exact (Fz.new w N).below (al1 _ _) (by simp))
  obtain ⟨zV, zVb⟩ : V.heap.size ≤ w.heap.size + 2 ∧ w.heap.size + 2 ≤ V.heap.size := by rw [hV]; simp
  have DV := Lib.hid (show Below w.heap.size w V from by rw [hV]; exact al2 w _ _)
  have k0 : V.cell? ⟨w.heap.size + 1, 0, none⟩ = some (.int .i64 (wd : Int)) := by rw [hV]; simp [go_sem]
  have k1 : V.cell? ⟨w.heap.size + 1, 1, none⟩ = some (.slice (some ⟨w.heap.size, 0, none⟩) N N) := by rw [hV]; simp [go_sem]
  have k2 : V.cell? ⟨w.heap.size + 1, 2, none⟩ = some (.slice none 0 0) := by rw [hV]; simp [go_sem]
  have FV := Lib.hid (show Free V (w.heap.size + 1) from by rw [hV]; have := Free.new (w.alloc (.cells (madeCells zC (N * 6)) 159)) 155 #[.int .i64 (wd : Int), .slice (some ⟨w.heap.size, 0, none⟩) N N, .slice none 0 0]; simpa using this)
  go_enter Tryd.func159, Tryd.ntmps159
  go_upto_region 2 with fail
  rw [← hV]
  clear hV MK
  go_wp2
  go_loopw [19] (fun x W => ∃ j : Nat, j ≤ N ∧ x = .int .i64 j ∧ Fz W w.heap.size N j ∧ Kept w.heap.size (w.heap.size + 1) V W ∧ W.heap.size ≤ V.heap.size) (fun x _ => N - (intOf x).toNat)
  case atStart => exact ⟨0, Nat.zero_le _, rfl, ZV.out, Kept.refl _ _ _, Nat.le_refl _⟩
  case round =>
    obtain ⟨j, hj, rfl, hz, hk, hzz⟩ := hrel
    have Z := Lib.hid hz
    have K := Lib.hid hk
    have r0 := (World.cell?_of_block (a := ⟨w.heap.size + 1, 0, none⟩) (hk.block (w.heap.size + 1) (by omega) (by omega))).trans k0
    have r1 := (World.cell?_of_block (a := ⟨w.heap.size + 1, 1, none⟩) (hk.block (w.heap.size + 1) (by omega) (by omega))).trans k1
    have r2 := (World.cell?_of_block (a := ⟨w.heap.size + 1, 2, none⟩) (hk.block (w.heap.size + 1) (by omega) (by omega))).trans k2
    have j0 : (0 : Int) ≤ (j : Int) := by omega
    clear hz hk ZV
    by_cases hlt : j < N
    · have j1 : (j : Int) < (N : Int) := by omega
      have c0 := Z.out.place j hlt
      rw [if_neg (by omega)] at c0
      have f0 := Z.out.free (j * 6)
      have NX := Lib.hid (Z.out.next hlt)
      go_wp2
      go_roundw
      case rel => exact ⟨j + 1, by omega, by go_num, NX.out, K.out.set_ (p := ⟨w.heap.size, j * 6, none⟩) (Nat.le_refl _) (Nat.lt_succ_self _) _, by simpa [World.setCell] using hzz⟩
      case measure => simp [intOf]; omega
    · obtain rfl : N = j := by omega
      have j1 : ¬ (N : Int) < (N : Int) := by omega
      have R := Lib.hid (show BoxF wr (w.heap.size + 1) w.heap.size N wd none 0 0 from ⟨r0, r1, r2⟩)
      have kz : wr.heap.size ≤ w.heap.size + 2 ∧ w.heap.size + 2 ≤ wr.heap.size := by have := K.out.size; omega
      go_wp2
      go_ret
      exact ⟨rfl, R.out, FV.out.kept K.out (by omega) (by omega), Z.out.fo, kz, DV.out.trans (K.out.below (Nat.le_refl _) (by omega))⟩
end Sk
end Go.Proofs.YtjendlfophdfeaaDoor

namespace Go.Proofs.YtjendlfophdfeaaDoor
open Go.RowKit
namespace Sk
set_option maxRecDepth 100000 in
set_option maxHeartbeats 4000000 in
theorem inFace_impl (e f : Nat) (w : World) (he : e < 6) (ht : Eg.Te w) : Calls Tryd.prog 189 #[.int .i64 (e : Int), .int .i64 (f : Int)] w fun x w' => x = .returned (.bool (inF e f)) ∧ w = w' := by
  obtain ⟨h1, h2, -, -⟩ := eN_all e he
  have c0 : w.cell? ⟨3, e * 2, none⟩ = some (.int .i64 (Eg.end0 e)) := ht e he 0 (by omega)
  have c1 : w.cell? ⟨3, e * 2 + 1, none⟩ = some (.int .i64 (Eg.end1 e)) := ht e he 1 (by omega)
  obtain ⟨u, hu⟩ : ∃ u, (eN e).1 = u := ⟨_, rfl⟩
  obtain ⟨v, hv⟩ : ∃ v, (eN e).2 = v := ⟨_, rfl⟩
  rw [h1, hu] at c0
  rw [h2, hv] at c1
  have R := Lib.hid (show inF e f = (decide (u ≠ f) && decide (v ≠ f)) from by unfold inF; rw [hu, hv])
  have i0 : (0 : Int) ≤ (e : Int) := by omega
  have i1 : (e : Int) < 6 := by omega
  clear h1 h2 hu hv ht
  by_cases e0 : u = f
  · have t0 : ((u : Int) != (f : Int)) = false := by simp [e0]
    have R2 := Lib.hid (show inF e f = false from by rw [R.out, e0]; simp)
    clear R e0
    go_enter Tryd.func189, Tryd.ntmps189
    go_wp2
    go_ret
    exact ⟨by rw [R2.out]; rfl, rfl⟩
  · have t0 : ((u : Int) != (f : Int)) = true := by simp; omega
    by_cases e1 : v = f
    · have t1 : ((v : Int) != (f : Int)) = false := by simp [e1]
      have R2 := Lib.hid (show inF e f = false from by rw [R.out, e1]; simp)
      clear R e0 e1
      go_enter Tryd.func189, Tryd.ntmps189
      go_wp2
      go_ret
      exact ⟨by rw [R2.out]; rfl, rfl⟩
    · have t1 : ((v : Int) != (f : Int)) = true := by simp; omega
      have R2 := Lib.hid (show inF e f = true from by rw [R.out]; simp [e0, e1])
      clear R e0 e1
      go_enter Tryd.func189, Tryd.ntmps189
      go_wp2
      go_ret
      exact ⟨by rw [R2.out]; rfl, rfl⟩
set_option maxRecDepth 100000 in
set_option maxHeartbeats 4000000 in
theorem edgeImage_impl (e p : Nat) (x0 x1 x2 x3 : Nat) (w : World) (he : e < 6) (hp : p < 24) (h4 : P4.im p = [(x0 : Int), x1, x2, x3]) (ht : Eg.Te w) (hn : Eg.Tn w) :
    Calls Tryd.prog 191 #[.int .i64 (e : Int), .agg #[.int .u8 (x0 : Int), .int .u8 (x1 : Int), .int .u8 (x2 : Int), .int .u8 (x3 : Int)]] w fun r w' => r = .returned (.tuple #[.int .i64 (eB p e : Int), .int .i64 (eS p e)]) ∧ Below w.heap.size w w' := by
  obtain ⟨h1, h2, u4, v4⟩ := eN_all e he
  have hq := (eB_all p hp e he).1
  obtain ⟨W, hW⟩ : ∃ W, W = w.alloc (Obj.cells #[.int .u8 (x0 : Int), .int .u8 (x1 : Int), .int .u8 (x2 : Int), .int .u8 (x3 : Int)] 121) := ⟨_, rfl⟩
  have hB : Below w.heap.size w W := by rw [hW]; exact al1 w _
  have c0 : W.cell? ⟨3, e * 2, none⟩ = some (.int .i64 (Eg.end0 e)) := (hB.cell (p := ⟨3, e * 2, none⟩) ht.pos).trans (ht e he 0 (by omega))
  have c1 : W.cell? ⟨3, e * 2 + 1, none⟩ = some (.int .i64 (Eg.end1 e)) := (hB.cell (p := ⟨3, e * 2 + 1, none⟩) ht.pos).trans (ht e he 1 (by omega))
  have bx : ∀ k, k < 4 → W.cell? ⟨w.heap.size, k, none⟩ = some (.int .u8 (gm p k : Int)) := fun k hk => by
    have hg := (gm_all p hp k hk).1
    rw [h4] at hg
    rw [← hg, hW]
    rcases (show k = 0 ∨ k = 1 ∨ k = 2 ∨ k = 3 by omega) with rfl | rfl | rfl | rfl <;> simp [go_sem]
  obtain ⟨u, hu⟩ : ∃ u, (eN e).1 = u := ⟨_, rfl⟩
  obtain ⟨v, hv⟩ : ∃ v, (eN e).2 = v := ⟨_, rfl⟩
  rw [hu] at u4
  rw [hv] at v4
  have bu := bx u u4
  have bv := bx v v4
  have xl := (gm_all p hp u u4).2
  have yl := (gm_all p hp v v4).2
  have hS : eS p e = if gm p u < gm p v then 1 else -1 := by unfold eS; rw [hu, hv]
  rw [h1, hu] at c0
  rw [h2, hv] at c1
  rw [hu, hv] at hq
  obtain ⟨x, hx⟩ : ∃ x, gm p u = x := ⟨_, rfl⟩
  obtain ⟨y, hy⟩ : ∃ y, gm p v = y := ⟨_, rfl⟩
  rw [hx] at bu xl
  rw [hy] at bv yl
  rw [hx, hy] at hq hS
  have n0 : W.cell? ⟨2, x * 4 + y, none⟩ = some (.int .i64 (Eg.nb x y)) := (hB.cell (p := ⟨2, x * 4 + y, none⟩) hn.pos).trans (hn x xl y yl)
  obtain ⟨q, hqq⟩ : ∃ q, eB p e = q := ⟨_, rfl⟩
  rw [hq, hqq] at n0
  have HS := Lib.hid hS
  have D := Lib.hid hB
  have i0 : (0 : Int) ≤ (e : Int) := by omega
  have i1 : (e : Int) < 6 := by omega
  have i2 : (0 : Int) ≤ (u : Int) ∧ (u : Int) < 4 := by omega
  have i3 : (0 : Int) ≤ (v : Int) ∧ (v : Int) < 4 := by omega
  have i4 : (0 : Int) ≤ (x : Int) ∧ (x : Int) < 4 := by omega
  have i5 : (0 : Int) ≤ (y : Int) ∧ (y : Int) < 4 := by omega
  obtain ⟨i20, i21⟩ := i2
  obtain ⟨i30, i31⟩ := i3
  obtain ⟨i40, i41⟩ := i4
  obtain ⟨i50, i51⟩ := i5
  clear h1 h2 hu hv hx hy hq hS hB bx ht hn h4
  by_cases hxy : x < y
  · have t0 : decide (x < y) = true := by simpa using hxy
    rw [if_pos hxy] at HS
    go_enter Tryd.func191, Tryd.ntmps191
    go_upto_region 1 with fail
    rw [← hW]
    clear hW hxy
    go_quiet (fail)
    go_wp2
    refine bodyPost_ret (v := .tuple #[.int .i64 (q : Int), .int .i64 1]) (by simp [results, Tryd.results191, go_sem]) rfl ?_
    exact ⟨by rw [hqq, HS.out], below_drewN D.out _⟩
  · have t0 : decide (x < y) = false := by simpa using hxy
    rw [if_neg hxy] at HS
    go_enter Tryd.func191, Tryd.ntmps191
    go_upto_region 1 with fail
    rw [← hW]
    clear hW hxy
    go_quiet (fail)
    go_wp2
    refine bodyPost_ret (v := .tuple #[.int .i64 (q : Int), .int .i64 (-1)]) (by simp [results, Tryd.results191, go_sem]) rfl ?_
    exact ⟨by rw [hqq, HS.out], below_drewN D.out _⟩
end Sk
end Go.Proofs.YtjendlfophdfeaaDoor

namespace Go.Proofs.YtjendlfophdfeaaDoor
open Go.RowKit
namespace Sk
/-- The three forests, in six blocks from z on. -/
structure Sk3 (w : World) (n z : Nat) (S : S3) : Prop where
  bv : BoxF w (z + 1) z (4 * n) 4 none 0 0
  be : BoxF w (z + 3) (z + 2) (6 * n) 6 none 0 0
  bf : BoxF w (z + 5) (z + 4) (4 * n) 4 none 0 0
  v : FoE w z (4 * n) S.v (fun _ => 0)
  e : FoE w (z + 2) (6 * n) S.e (fun _ => 0)
  f : FoE w (z + 4) (4 * n) S.f (fun _ => 0)
  lt : z + 6 ≤ w.heap.size
  fv : Free w (z + 1)
  fe : Free w (z + 3)
  ff : Free w (z + 5)
section
variable {w w' : World} {n z i : Nat} {S : S3}
theorem box_kept {lo hi g g' N wd m c : Nat} {A : Option Addr} (h : BoxF w g g' N wd A m c) (hk : Kept lo hi w w') (hg : g < w.heap.size) (hn : ¬ (lo ≤ g ∧ g < hi)) : BoxF w' g g' N wd A m c := Box3.kept h hk hg hn
theorem Sk3.below {B : Nat} (h : Sk3 w n z S) (hb : Below B w w') (hB : z + 6 ≤ B) : Sk3 w' n z S :=
  ⟨Box3.below h.bv hb (by omega), Box3.below h.be hb (by omega), Box3.below h.bf hb (by omega), h.v.below hb (by omega), h.e.below hb (by omega), h.f.below hb (by omega), Nat.le_trans h.lt hb.size, h.fv.below hb (by omega), h.fe.below hb (by omega), h.ff.below hb (by omega)⟩
theorem Sk3.drewN (h : Sk3 w n z S) (k : Nat) : Sk3 (w.drewN k) n z S := h.below (below_drewN (Below.refl (z + 6) w) k) (Nat.le_refl _)
theorem Sk3.inV (h : Sk3 w n z S) {F : FS} (hk : Kept z (z + 1) w w') (hF : FoE w' z (4 * n) F (fun _ => 0)) : Sk3 w' n z { S with v := F } := by
  have := h.lt
  exact ⟨box_kept h.bv hk (by omega) (by omega), box_kept h.be hk (by omega) (by omega), box_kept h.bf hk (by omega) (by omega), hF, h.e.kept hk (by omega), h.f.kept hk (by omega), Nat.le_trans h.lt hk.size, h.fv.kept hk (by omega) (by omega), h.fe.kept hk (by omega) (by omega), h.ff.kept hk (by omega) (by omega)⟩
theorem Sk3.inE (h : Sk3 w n z S) {F : FS} (hk : Kept (z + 2) (z + 2 + 1) w w') (hF : FoE w' (z + 2) (6 * n) F (fun _ => 0)) : Sk3 w' n z { S with e := F } := by
  have := h.lt
  exact ⟨box_kept h.bv hk (by omega) (by omega), box_kept h.be hk (by omega) (by omega), box_kept h.bf hk (by omega) (by omega), h.v.kept hk (by omega), hF, h.f.kept hk (by omega), Nat.le_trans h.lt hk.size, h.fv.kept hk (by omega) (by omega), h.fe.kept hk (by omega) (by omega), h.ff.kept hk (by omega) (by omega)⟩
theorem Sk3.inF (h : Sk3 w n z S) {F : FS} (hk : Kept (z + 4) (z + 4 + 1) w w') (hF : FoE w' (z + 4) (4 * n) F (fun _ => 0)) : Sk3 w' n z { S with f := F } := by
  have := h.lt
  exact ⟨box_kept h.bv hk (by omega) (by omega), box_kept h.be hk (by omega) (by omega), box_kept h.bf hk (by omega) (by omega), h.v.kept hk (by omega), h.e.kept hk (by omega), hF, Nat.le_trans h.lt hk.size, h.fv.kept hk (by omega) (by omega), h.fe.kept hk (by omega) (by omega), h.ff.kept hk (by omega) (by omega)⟩
theorem Sk3.ptrV (h : Sk3 w n z S) : w.cell? ⟨z + 1, 0, none⟩ = some (.int .i64 4) := h.bv.1
theorem Sk3.ptrE (h : Sk3 w n z S) : w.cell? ⟨z + 3, 0, none⟩ = some (.int .i64 6) := h.be.1
theorem Sk3.ptrF (h : Sk3 w n z S) : w.cell? ⟨z + 5, 0, none⟩ = some (.int .i64 4) := h.bf.1
theorem kept_mark (w : World) (m g o : Nat) (u : Value) : Kept g (g + 1) w ((w.drewN m).setCell ⟨g, o, none⟩ u) := ((Kept.refl g (g + 1) w).drewN m).set_ (p := ⟨g, o, none⟩) (Nat.le_refl _) (Nat.lt_succ_self _) u
theorem foe_mark {g N : Nat} {F : FS} {cl : Nat → Int} (h : FoE w g N F cl) (m i : Nat) : FoE ((w.drewN m).setCell ⟨g, i * 6 + 5, none⟩ (.bool true)) g N (F.mark i) cl := by
  obtain ⟨p, s, h⟩ := h
  exact ⟨p, s, (h.keep (w' := w.drewN m) (Nat.le_refl _) rfl).setBd⟩
theorem Sk3.markV (h : Sk3 w n z S) (m i : Nat) : Sk3 ((w.drewN m).setCell ⟨z, i * 6 + 5, none⟩ (.bool true)) n z { S with v := S.v.mark i } := h.inV (kept_mark _ _ _ _ _) (foe_mark h.v m i)
theorem Sk3.markE (h : Sk3 w n z S) (m i : Nat) : Sk3 ((w.drewN m).setCell ⟨z + 2, i * 6 + 5, none⟩ (.bool true)) n z { S with e := S.e.mark i } := h.inE (kept_mark _ _ _ _ _) (foe_mark h.e m i)
theorem Sk3.markF (h : Sk3 w n z S) (m i : Nat) : Sk3 ((w.drewN m).setCell ⟨z + 4, i * 6 + 5, none⟩ (.bool true)) n z { S with f := S.f.mark i } := h.inF (kept_mark _ _ _ _ _) (foe_mark h.f m i)
theorem Sk3.cellV (h : Sk3 w n z S) {i : Nat} (hi : i < 4 * n) (m : Nat) : (∃ b, (w.drewN m).cell? ⟨z, i * 6 + 5, none⟩ = some (.bool b)) ∧ (w.drewN m).frozen? ⟨z, i * 6 + 5, none⟩ = false := by
  obtain ⟨p, s, h⟩ := h.v; exact ⟨⟨_, (h.cell i hi).bnd⟩, h.free _⟩
theorem Sk3.cellE (h : Sk3 w n z S) {i : Nat} (hi : i < 6 * n) (m : Nat) : (∃ b, (w.drewN m).cell? ⟨z + 2, i * 6 + 5, none⟩ = some (.bool b)) ∧ (w.drewN m).frozen? ⟨z + 2, i * 6 + 5, none⟩ = false := by
  obtain ⟨p, s, h⟩ := h.e; exact ⟨⟨_, (h.cell i hi).bnd⟩, h.free _⟩
theorem Sk3.cellF (h : Sk3 w n z S) {i : Nat} (hi : i < 4 * n) (m : Nat) : (∃ b, (w.drewN m).cell? ⟨z + 4, i * 6 + 5, none⟩ = some (.bool b)) ∧ (w.drewN m).frozen? ⟨z + 4, i * 6 + 5, none⟩ = false := by
  obtain ⟨p, s, h⟩ := h.f; exact ⟨⟨_, (h.cell i hi).bnd⟩, h.free _⟩
theorem Sk3.atV (h : Sk3 w n z S) {a k : Nat} (ha : a < n) (hk : k < 4) (hn : n ≤ 8) : Calls Tryd.prog 188 #[.pointer (some ⟨z + 1, 0, none⟩), .int .i64 (a : Int), .int .i64 (k : Int)] w fun e w' => e = .returned (.pointer (some ⟨z, (4 * a + k) * 6, none⟩)) ∧ ∃ j, w' = w.drewN j := by
  have := at_impl (z + 1) z (4 * n) 4 a k none 0 0 w h.bv (by omega) (by omega)
  rwa [Nat.mul_comm a 4] at this
theorem Sk3.atE (h : Sk3 w n z S) {a k : Nat} (ha : a < n) (hk : k < 6) (hn : n ≤ 8) : Calls Tryd.prog 188 #[.pointer (some ⟨z + 3, 0, none⟩), .int .i64 (a : Int), .int .i64 (k : Int)] w fun e w' => e = .returned (.pointer (some ⟨z + 2, (6 * a + k) * 6, none⟩)) ∧ ∃ j, w' = w.drewN j := by
  have := at_impl (z + 3) (z + 2) (6 * n) 6 a k none 0 0 w h.be (by omega) (by omega)
  rwa [Nat.mul_comm a 6] at this
theorem Sk3.atF (h : Sk3 w n z S) {a k : Nat} (ha : a < n) (hk : k < 4) (hn : n ≤ 8) : Calls Tryd.prog 188 #[.pointer (some ⟨z + 5, 0, none⟩), .int .i64 (a : Int), .int .i64 (k : Int)] w fun e w' => e = .returned (.pointer (some ⟨z + 4, (4 * a + k) * 6, none⟩)) ∧ ∃ j, w' = w.drewN j := by
  have := at_impl (z + 5) (z + 4) (4 * n) 4 a k none 0 0 w h.bf (by omega) (by omega)
  rwa [Nat.mul_comm a 4] at this
end
/-- What changes the forests leaves the rest alone. -/
def ResK (n z : Nat) (S : S3) (w : World) (e : Ending) (w' : World) : Prop := e = .returned (.tuple #[]) ∧ Sk3 w' n z S ∧ Kept z (z + 6) w w'
set_option maxRecDepth 100000 in
set_option maxHeartbeats 8000000 in
theorem mark_impl (n z a f : Nat) (S : S3) (w : World) (h : Sk3 w n z S) (ht : Eg.Te w) (hg : 3 < z) (ha : a < n) (hf : f < 4) (hn : n ≤ 8) :
    Calls Tryd.prog 160 #[.agg #[.pointer (some ⟨z + 1, 0, none⟩), .pointer (some ⟨z + 3, 0, none⟩), .pointer (some ⟨z + 5, 0, none⟩)], .agg #[.int .i64 (a : Int), .int .i64 (f : Int)]] w (ResK n z ⟨vM S.v a f 4, eM S.e a f 6, S.f.mark (4 * a + f)⟩ w) := by
  have hz := h.lt
  obtain ⟨U, hU⟩ : ∃ U, U = (w.alloc (Obj.cells #[.pointer (some ⟨z + 1, 0, none⟩), .pointer (some ⟨z + 3, 0, none⟩), .pointer (some ⟨z + 5, 0, none⟩)] 149)).alloc (Obj.cells #[.int .i64 (a : Int), .int .i64 (f : Int)] 94) := ⟨_, rfl⟩
  have BU := Lib.hid (show Below w.heap.size w U from by rw [hU]; exact al2 _ _ _)
  have SU := Lib.hid (h.below BU.out (by omega))
  have KU := Lib.hid (Kept.of_below BU.out z (z + 6))
  obtain ⟨zU, zUb⟩ : U.heap.size ≤ w.heap.size + 2 ∧ w.heap.size + 2 ≤ U.heap.size := by rw [hU]; simp
  have b0 : U.cell? ⟨w.heap.size, 0, none⟩ = some (.pointer (some ⟨z + 1, 0, none⟩)) := by rw [hU]; simp [go_sem]
  have b1 : U.cell? ⟨w.heap.size, 1, none⟩ = some (.pointer (some ⟨z + 3, 0, none⟩)) := by rw [hU]; simp [go_sem]
  have b2 : U.cell? ⟨w.heap.size, 2, none⟩ = some (.pointer (some ⟨z + 5, 0, none⟩)) := by rw [hU]; simp [go_sem]
  have d0 : U.cell? ⟨w.heap.size + 1, 0, none⟩ = some (.int .i64 (a : Int)) := by rw [hU]; simp [go_sem]
  have d1 : U.cell? ⟨w.heap.size + 1, 1, none⟩ = some (.int .i64 (f : Int)) := by rw [hU]; simp [go_sem]
  have TU := Lib.hid (ht.below (BU.out.mono (show z ≤ w.heap.size by omega)) hg)
  have hFF := h.f
  clear h ht
  go_enter Tryd.func160, Tryd.ntmps160
  go_upto_region 1 with fail
  rw [← hU]
  clear hU
  go_wp2_with fail
  (with_reducible refine (SU.out.atF ha hf hn).mono ?_)
  rintro e w' ⟨rfl, j, rfl⟩
  obtain ⟨⟨c0, hc0⟩, hf0⟩ := SU.out.cellF (i := 4 * a + f) (by omega) j
  have S1 := Lib.hid (SU.out.markF j (4 * a + f))
  have K1 := Lib.hid (KU.out.trans ((kept_mark U j (z + 4) ((4 * a + f) * 6 + 5) (.bool true)).wide (lo' := z) (hi' := z + 6) (by omega) (by omega)))
  obtain ⟨V, hV⟩ : ∃ V, V = (U.drewN j).setCell ⟨z + 4, (4 * a + f) * 6 + 5, none⟩ (.bool true) := ⟨_, rfl⟩
  have kv : ∀ o c u, o ≠ z + 4 → U.cell? ⟨o, c, none⟩ = some u → V.cell? ⟨o, c, none⟩ = some u := fun o c u ho hc => by
    rw [hV, World.cell?_setCell_other _ _ _ _ (by first | (simp; done) | (simp; omega))]; exact hc
  have b0 := kv _ _ _ (by omega) b0
  have b1 := kv _ _ _ (by omega) b1
  have d0 := kv _ _ _ (by omega) d0
  have d1 := kv _ _ _ (by omega) d1
  have zV : V.heap.size = U.heap.size := by rw [hV]; simp [World.setCell]
  have TV := Lib.hid (show Eg.Te V from fun i hi k hk => kv _ _ _ (by omega) (TU.out i hi k hk))
  rw [← hV] at S1 K1
  have ZV := Lib.hid zV
  clear kv b2 TU SU KU BU hFF zV
  go_upto_region 2 with fail
  rw [← hV]
  clear hV hc0 hf0
  have p0 := S1.out.ptrV
  go_wp2
  go_loopw [20] (fun i W => ∃ k : Nat, k ≤ 4 ∧ i = .int .i64 k ∧ Sk3 W n z ⟨vM S.v a f k, S.e, S.f.mark (4 * a + f)⟩ ∧ Kept z (z + 6) V W) (fun i _ => 4 - (intOf i).toNat)
  case atStart => exact ⟨0, by omega, rfl, S1.out, Kept.refl _ _ _⟩
  case round =>
    obtain ⟨W, rfl⟩ : ∃ W : World, W = wr := ⟨_, rfl⟩
    obtain ⟨k, hk, rfl, hS, hK⟩ := hrel
    have SW := Lib.hid hS
    have KW := Lib.hid hK
    have zV := ZV.out
    have m0 := (World.cell?_of_block (a := ⟨w.heap.size, 0, none⟩) (hK.block w.heap.size (by omega) (by omega))).trans b0
    have m1 := (World.cell?_of_block (a := ⟨w.heap.size, 1, none⟩) (hK.block w.heap.size (by omega) (by omega))).trans b1
    have n0 := (World.cell?_of_block (a := ⟨w.heap.size + 1, 0, none⟩) (hK.block (w.heap.size + 1) (by omega) (by omega))).trans d0
    have n1 := (World.cell?_of_block (a := ⟨w.heap.size + 1, 1, none⟩) (hK.block (w.heap.size + 1) (by omega) (by omega))).trans d1
    clear hS hK zV
    by_cases hlt : k < 4
    · have i1 : (k : Int) < 4 := by omega
      by_cases hkf : k = f
      · have t0 : ((k : Int) != (f : Int)) = false := by simp [hkf]
        have NX := Lib.hid (show vM S.v a f (k + 1) = vM S.v a f k from by simp only [vM]; rw [if_pos hkf])
        clear hkf
        go_wp2
        go_roundw
        case rel => exact ⟨k + 1, by omega, by go_num, by rw [NX.out]; exact SW.out, KW.out⟩
        case measure => simp [intOf]; omega
      · have t0 : ((k : Int) != (f : Int)) = true := by simp; omega
        have NX := Lib.hid (show vM S.v a f (k + 1) = (vM S.v a f k).mark (4 * a + k) from by simp only [vM]; rw [if_neg hkf])
        clear hkf
        go_wp2_with fail
        (with_reducible refine (SW.out.atV ha hlt hn).mono ?_)
        rintro e w' ⟨rfl, j, rfl⟩
        obtain ⟨⟨c0, hc0⟩, hf0⟩ := SW.out.cellV (i := 4 * a + k) (by omega) j
        have S2 := Lib.hid (SW.out.markV j (4 * a + k))
        have K2 := Lib.hid (KW.out.trans ((kept_mark W j z ((4 * a + k) * 6 + 5) (.bool true)).wide (lo' := z) (hi' := z + 6) (by omega) (by omega)))
        go_wp2
        go_roundw
        case rel => exact ⟨k + 1, by omega, by go_num, by rw [NX.out]; exact S2.out, K2.out⟩
        case measure => simp [intOf]; omega
    · obtain rfl : k = 4 := by omega
      have i1 : ¬ (4 : Int) < 4 := by omega
      have p1 := SW.out.ptrE
      have zW : V.heap.size ≤ W.heap.size := KW.out.size
      have TW := Lib.hid (TV.out.below (KW.out.below (B := z) (Nat.le_refl _) (by have := ZV.out; omega)) hg)
      go_wp2
      go_loopw [41] (fun i X => ∃ k : Nat, k ≤ 6 ∧ i = .int .i64 k ∧ Sk3 X n z ⟨vM S.v a f 4, eM S.e a f k, S.f.mark (4 * a + f)⟩ ∧ Kept z (z + 6) W X) (fun i _ => 6 - (intOf i).toNat)
      case atStart => exact ⟨0, by omega, rfl, SW.out, Kept.refl _ _ _⟩
      case round =>
        obtain ⟨X, rfl⟩ : ∃ X : World, X = wr := ⟨_, rfl⟩
        obtain ⟨k, hk, rfl, hS, hK⟩ := hrel
        have SX := Lib.hid hS
        have KX := Lib.hid hK
        have zV := ZV.out
        have y1 := (World.cell?_of_block (a := ⟨w.heap.size, 1, none⟩) (hK.block w.heap.size (by omega) (by omega))).trans m1
        have q0 := (World.cell?_of_block (a := ⟨w.heap.size + 1, 0, none⟩) (hK.block (w.heap.size + 1) (by omega) (by omega))).trans n0
        have q1 := (World.cell?_of_block (a := ⟨w.heap.size + 1, 1, none⟩) (hK.block (w.heap.size + 1) (by omega) (by omega))).trans n1
        have TX := Lib.hid (TW.out.below (hK.below (B := z) (Nat.le_refl _) (by omega)) hg)
        clear hS hK zV m0 m1 n0 n1
        by_cases hlt : k < 6
        · have i2 : (k : Int) < 6 := by omega
          have IF := Lib.hid (inFace_impl k f X hlt TX.out)
          by_cases hkf : inF k f = true
          · have NX := Lib.hid (show eM S.e a f (k + 1) = (eM S.e a f k).mark (6 * a + k) from by simp only [eM]; rw [if_pos hkf])
            rw [hkf] at IF
            clear hkf
            go_wp2_with fail
            (with_reducible refine IF.out.mono ?_)
            rintro e w' ⟨rfl, rfl⟩
            go_wp2_with fail
            (with_reducible refine (SX.out.atE ha hlt hn).mono ?_)
            rintro e w' ⟨rfl, j, rfl⟩
            obtain ⟨⟨c0, hc0⟩, hf0⟩ := SX.out.cellE (i := 6 * a + k) (by omega) j
            have S2 := Lib.hid (SX.out.markE j (6 * a + k))
            have K2 := Lib.hid (KX.out.trans ((kept_mark X j (z + 2) ((6 * a + k) * 6 + 5) (.bool true)).wide (lo' := z) (hi' := z + 6) (by omega) (by omega)))
            go_wp2
            go_roundw
            case rel => exact ⟨k + 1, by omega, by go_num, by rw [NX.out]; exact S2.out, K2.out⟩
            case measure => simp [intOf]; omega
          · have NX := Lib.hid (show eM S.e a f (k + 1) = eM S.e a f k from by simp only [eM]; rw [if_neg hkf])
            rw [Bool.not_eq_true] at hkf
            rw [hkf] at IF
            clear hkf
            go_wp2_with fail
            (with_reducible refine IF.out.mono ?_)
            rintro e w' ⟨rfl, rfl⟩
            go_wp2
            go_roundw
            case rel => exact ⟨k + 1, by omega, by go_num, by rw [NX.out]; exact SX.out, KX.out⟩
            case measure => simp [intOf]; omega
        · obtain rfl : k = 6 := by omega
          have i2 : ¬ (6 : Int) < 6 := by omega
          go_wp2
          refine bodyPost_end (results_none rfl _ _ _) rfl ?_
          exact ⟨rfl, SX.out, (K1.out.trans KW.out).trans KX.out⟩
end Sk
end Go.Proofs.YtjendlfophdfeaaDoor

namespace Go.Proofs.YtjendlfophdfeaaDoor
open Go.RowKit
namespace Sk
theorem kc {lo hi o c : Nat} {u : Value} {w w' : World} (h : Kept lo hi w w') (h3 : w.cell? ⟨o, c, none⟩ = some u) (h2 : ¬ (lo ≤ o ∧ o < hi)) : w'.cell? ⟨o, c, none⟩ = some u :=
  (World.cell?_of_block (a := ⟨o, c, none⟩) (h.block o (World.block_lt_of_cell? w _ h3) h2)).trans h3
theorem foe_join {w : World} {g N i k : Nat} {s : Int} {F : FS} {cl : Nat → Int} (m : Nat) (h : FoE w g N F cl) (hi : i < N) (hk : k < N) (hs : s = 1 ∨ s = -1) : Calls Tryd.prog 190 #[.pointer (some ⟨g, i * 6, none⟩), .pointer (some ⟨g, k * 6, none⟩), .int .i64 s] (w.drewN m) fun e w' => e = .returned (.tuple #[]) ∧ FoE w' g N (F.join i k s) cl ∧ Kept g (g + 1) w w' :=
  (join_impl g N i k s F cl (w.drewN m) (by obtain ⟨p, q, h⟩ := h; exact ⟨p, q, h.keep (Nat.le_refl _) rfl⟩) hi hk hs).mono fun _ _ h => ⟨h.1, h.2.1, ((Kept.refl _ _ _).drewN m).trans h.2.2⟩
set_option maxRecDepth 100000 in
set_option maxHeartbeats 16000000 in
theorem identify_impl (n z a f tb g p : Nat) (x0 x1 x2 x3 : Nat) (S : S3) (w : World) (h : Sk3 w n z S) (ht : Eg.Te w) (hnn : Eg.Tn w) (hg0 : 3 < z) (hg1 : 2 < z) (ha : a < n) (hf : f < 4) (htb : tb < n) (hn : n ≤ 8) (hp : p < 24) (h4 : P4.im p = [(x0 : Int), x1, x2, x3]) (hgm : gm p f = g) :
    Calls Tryd.prog 161 #[.agg #[.pointer (some ⟨z + 1, 0, none⟩), .pointer (some ⟨z + 3, 0, none⟩), .pointer (some ⟨z + 5, 0, none⟩)], .agg #[.int .i64 (a : Int), .int .i64 (f : Int), .int .i64 (tb : Int), .int .i64 (g : Int), .int .u8 (x0 : Int), .int .u8 (x1 : Int), .int .u8 (x2 : Int), .int .u8 (x3 : Int)]] w
      (ResK n z ⟨vI S.v a f tb p 4, eI S.e a f tb p 6, S.f.join (4 * a + f) (4 * tb + g) 1⟩ w) := by
  have hz := h.lt
  have g4 : g < 4 := by rw [← hgm]; exact (gm_all p hp f hf).2
  obtain ⟨U, hU⟩ : ∃ U, U = (w.alloc (Obj.cells #[.pointer (some ⟨z + 1, 0, none⟩), .pointer (some ⟨z + 3, 0, none⟩), .pointer (some ⟨z + 5, 0, none⟩)] 149)).alloc (Obj.cells #[.int .i64 (a : Int), .int .i64 (f : Int), .int .i64 (tb : Int), .int .i64 (g : Int), .int .u8 (x0 : Int), .int .u8 (x1 : Int), .int .u8 (x2 : Int), .int .u8 (x3 : Int)] 123) := ⟨_, rfl⟩
  have BU := Lib.hid (show Below w.heap.size w U from by rw [hU]; exact al2 _ _ _)
  obtain ⟨zU, zUb⟩ : U.heap.size ≤ w.heap.size + 2 ∧ w.heap.size + 2 ≤ U.heap.size := by rw [hU]; simp
  have b0 : U.cell? ⟨w.heap.size, 0, none⟩ = some (.pointer (some ⟨z + 1, 0, none⟩)) := by rw [hU]; simp [go_sem]
  have b1 : U.cell? ⟨w.heap.size, 1, none⟩ = some (.pointer (some ⟨z + 3, 0, none⟩)) := by rw [hU]; simp [go_sem]
  have b2 : U.cell? ⟨w.heap.size, 2, none⟩ = some (.pointer (some ⟨z + 5, 0, none⟩)) := by rw [hU]; simp [go_sem]
  have d0 : U.cell? ⟨w.heap.size + 1, 0, none⟩ = some (.int .i64 (a : Int)) := by rw [hU]; simp [go_sem]
  have d1 : U.cell? ⟨w.heap.size + 1, 1, none⟩ = some (.int .i64 (f : Int)) := by rw [hU]; simp [go_sem]
  have d2 : U.cell? ⟨w.heap.size + 1, 2, none⟩ = some (.int .i64 (tb : Int)) := by rw [hU]; simp [go_sem]
  have d3 : U.cell? ⟨w.heap.size + 1, 3, none⟩ = some (.int .i64 (g : Int)) := by rw [hU]; simp [go_sem]
  have d4 : U.cell? ⟨w.heap.size + 1, 4, none⟩ = some (.int .u8 (x0 : Int)) := by rw [hU]; simp [go_sem]
  have d5 : U.cell? ⟨w.heap.size + 1, 5, none⟩ = some (.int .u8 (x1 : Int)) := by rw [hU]; simp [go_sem]
  have d6 : U.cell? ⟨w.heap.size + 1, 6, none⟩ = some (.int .u8 (x2 : Int)) := by rw [hU]; simp [go_sem]
  have d7 : U.cell? ⟨w.heap.size + 1, 7, none⟩ = some (.int .u8 (x3 : Int)) := by rw [hU]; simp [go_sem]
  have HH := Lib.hid h
  have HT := Lib.hid ht
  have HN := Lib.hid hnn
  have IM := Lib.hid h4
  clear h ht hnn h4
  go_enter Tryd.func161, Tryd.ntmps161
  go_upto_region 1 with fail
  rw [← hU]
  clear hU
  have e1 : w.heap.size + 1 < U.heap.size := by omega
  have e2 : w.heap.size < U.heap.size := by omega
  go_cut [4, 5] (fun u v Z => ∃ c1 c2 : Nat, u = .pointer (some ⟨c1, 0, none⟩) ∧ v = .pointer (some ⟨c2, 0, none⟩) ∧ U.heap.size ≤ c1 ∧ U.heap.size ≤ c2 ∧ Z.cell? ⟨c1, 0, none⟩ = some (.int .i64 (a : Int)) ∧ Z.cell? ⟨c1, 1, none⟩ = some (.int .i64 (f : Int)) ∧ Z.cell? ⟨c2, 0, none⟩ = some (.int .i64 (tb : Int)) ∧ Z.cell? ⟨c2, 1, none⟩ = some (.int .i64 (g : Int)) ∧ Below U.heap.size U Z)
  case first =>
    go_region
    all_goals
      go_wp2_with fail
      go_meet
      exact ⟨_, _, rfl, rfl, by omega, by omega, by simp [go_sem], by simp [go_sem], by simp [go_sem], by simp [go_sem], (al2 _ _ _).drew⟩
  obtain ⟨c1, c2, rfl, rfl, hc1, hc2, q0, q1, q2, q3, hUZ⟩ := hcut
  obtain ⟨Z, rfl⟩ : ∃ Z : World, Z = wc := ⟨_, rfl⟩
  have DZ := Lib.hid (BU.out.trans (hUZ.mono (by omega)))
  have zZ := hUZ.size
  have l1 : c1 < Z.heap.size := World.block_lt_of_cell? Z _ q0
  have l2 : c2 < Z.heap.size := World.block_lt_of_cell? Z _ q2
  have b0 := (hUZ.cell (p := ⟨w.heap.size, 0, none⟩) (by dsimp only; omega)).trans b0
  have b1 := (hUZ.cell (p := ⟨w.heap.size, 1, none⟩) (by dsimp only; omega)).trans b1
  have b2 := (hUZ.cell (p := ⟨w.heap.size, 2, none⟩) (by dsimp only; omega)).trans b2
  have d4 := (hUZ.cell (p := ⟨w.heap.size + 1, 4, none⟩) (by dsimp only; omega)).trans d4
  have d5 := (hUZ.cell (p := ⟨w.heap.size + 1, 5, none⟩) (by dsimp only; omega)).trans d5
  have d6 := (hUZ.cell (p := ⟨w.heap.size + 1, 6, none⟩) (by dsimp only; omega)).trans d6
  have d7 := (hUZ.cell (p := ⟨w.heap.size + 1, 7, none⟩) (by dsimp only; omega)).trans d7
  have SZ := Lib.hid (HH.out.below DZ.out (by omega))
  have TZ := Lib.hid (HT.out.below (DZ.out.mono (show z ≤ w.heap.size by omega)) hg0)
  have NZ := Lib.hid (HN.out.below (DZ.out.mono (show z ≤ w.heap.size by omega)) hg1)
  have KZ := Lib.hid (Kept.of_below DZ.out z (z + 6))
  have AT1 := Lib.hid (fun m => (SZ.out.drewN m).atF ha hf hn)
  have AT2 := Lib.hid (fun m => (SZ.out.drewN m).atF htb g4 hn)
  have AD1 := Lib.hid (show Calls _ _ _ Z.drew _ from AT1.out 1)
  have AD2 := Lib.hid (show Calls _ _ _ Z.drew _ from AT2.out 1)
  have JN := Lib.hid (fun m => foe_join (s := 1) m SZ.out.f (show 4 * a + f < 4 * n by omega) (show 4 * tb + g < 4 * n by omega) (.inl rfl))
  clear d0 d1 d2 d3 hUZ BU DZ HH HT HN
  go_upto_region 2 with fail
  go_region_held3 (fun Y => Y.cell? ⟨w.heap.size, 2, none⟩ = some (.pointer (some ⟨z + 5, 0, none⟩)) ∧ Y.cell? ⟨c1, 0, none⟩ = some (.int .i64 (a : Int)) ∧ Y.cell? ⟨c1, 1, none⟩ = some (.int .i64 (f : Int)) ∧ Y.cell? ⟨c2, 0, none⟩ = some (.int .i64 (tb : Int)) ∧ Y.cell? ⟨c2, 1, none⟩ = some (.int .i64 (g : Int))) (go_keep) (first
    | (go_at_call 188; (with_reducible refine (AD1.out).mono ?_); rintro e y6 ⟨rfl, j6, rfl⟩)
    | (go_at_call 188; (with_reducible refine (AD2.out).mono ?_); rintro e y6 ⟨rfl, j6, rfl⟩)
    | (go_at_call 188; (with_reducible refine (AT1.out _).mono ?_); rintro e y7 ⟨rfl, j7, rfl⟩)
    | (go_at_call 188; (with_reducible refine (AT2.out _).mono ?_); rintro e y7 ⟨rfl, j7, rfl⟩)
    | (go_at_call 190; (with_reducible refine (JN.out _).mono ?_); rintro e V ⟨rfl, hfV, hkV⟩; have SV := Lib.hid (SZ.out.inF hkV hfV); have KV := Lib.hid (hkV.wide (lo' := z) (hi' := z + 6) (by omega) (by omega)); have v2 := kc KV.out b2 (by omega); have v3 := kc KV.out q0 (by omega); have v4 := kc KV.out q1 (by omega); have v5 := kc KV.out q2 (by omega); have v6 := kc KV.out q3 (by omega); clear hfV hkV))
  all_goals
    clear v2 v3 v5 v6 AT1 AT2 AD1 AD2 JN
    have v0 := kc KV.out b0 (by omega)
    have r0 := SV.out.ptrV
    go_upto_region 3 with fail
    go_wp2
    go_loopw [34] (fun i W => ∃ k : Nat, k ≤ 4 ∧ i = .int .i64 k ∧ Sk3 W n z ⟨vI S.v a f tb p k, S.e, S.f.join (4 * a + f) (4 * tb + g) 1⟩ ∧ Kept z (z + 6) Z W) (fun i _ => 4 - (intOf i).toNat)
    case atStart => exact ⟨0, by omega, rfl, SV.out, KV.out⟩
    case round =>
      clear v0 v4 r0 SV KV
      obtain ⟨W, rfl⟩ : ∃ W : World, W = wr := ⟨_, rfl⟩
      obtain ⟨k, hk, rfl, hS, hK⟩ := hrel
      have SW := Lib.hid hS
      have KW := Lib.hid hK
      have m0 := kc hK b0 (by omega)
      have m1 := kc hK b1 (by omega)
      have n0 := kc hK q0 (by omega)
      have n1 := kc hK q1 (by omega)
      have n2 := kc hK q2 (by omega)
      clear hS hK
      by_cases hlt : k < 4
      · have i1 : (k : Int) < 4 := by omega
        have i0 : (0 : Int) ≤ (k : Int) := by omega
        by_cases hkf : k = f
        · have t0 : ((k : Int) != (f : Int)) = false := by simp [hkf]
          have NX := Lib.hid (show vI S.v a f tb p (k + 1) = vI S.v a f tb p k from by simp only [vI]; rw [if_pos hkf])
          clear hkf
          go_wp2
          go_roundw
          case rel => exact ⟨k + 1, by omega, by go_num, by rw [NX.out]; exact SW.out, KW.out⟩
          case measure => simp [intOf]; omega
        · have t0 : ((k : Int) != (f : Int)) = true := by simp; omega
          have NX := Lib.hid (show vI S.v a f tb p (k + 1) = (vI S.v a f tb p k).join (4 * a + k) (4 * tb + gm p k) 1 from by simp only [vI]; rw [if_neg hkf])
          obtain ⟨hgk, gk4⟩ := gm_all p hp k hlt
          have dk : Z.cell? ⟨w.heap.size + 1, 4 + k, none⟩ = some (.int .u8 (gm p k : Int)) := by
            rw [IM.out] at hgk
            rw [← hgk]
            rcases (show k = 0 ∨ k = 1 ∨ k = 2 ∨ k = 3 by omega) with rfl | rfl | rfl | rfl
            · exact d4
            · exact d5
            · exact d6
            · exact d7
          have nk := kc KW.out dk (by omega)
          obtain ⟨G, hG⟩ : ∃ G, gm p k = G := ⟨_, rfl⟩
          rw [hG] at nk gk4 NX
          have g0 : (0 : Int) ≤ (G : Int) := by omega
          have g1 : (G : Int) < 256 := by omega
          have cv : IntKind.i64.wrap (G : Int) = (G : Int) := IntWalk.i64_in _ (by omega)
          have AT1 := Lib.hid (fun m => (SW.out.drewN m).atV ha hlt hn)
          have AT2 := Lib.hid (fun m => (SW.out.drewN m).atV htb gk4 hn)
          have AD1 := Lib.hid (show Calls _ _ _ W.drew _ from AT1.out 1)
          have AD2 := Lib.hid (show Calls _ _ _ W.drew _ from AT2.out 1)
          have JN := Lib.hid (fun m => foe_join (s := 1) m SW.out.v (show 4 * a + k < 4 * n by omega) (show 4 * tb + G < 4 * n by omega) (.inl rfl))
          clear hkf hgk dk hG
          go_upto_region 7 with fail
          go_region_held3 (fun Y => Y.cell? ⟨w.heap.size, 0, none⟩ = some (.pointer (some ⟨z + 1, 0, none⟩)) ∧ Y.cell? ⟨c1, 0, none⟩ = some (.int .i64 (a : Int)) ∧ Y.cell? ⟨c2, 0, none⟩ = some (.int .i64 (tb : Int)) ∧ Y.cell? ⟨w.heap.size + 1, 4 + k, none⟩ = some (.int .u8 (G : Int))) (go_keep) (first
            | (go_at_call 188; (with_reducible refine (AD1.out).mono ?_); rintro e y6 ⟨rfl, j6, rfl⟩)
            | (go_at_call 188; (with_reducible refine (AD2.out).mono ?_); rintro e y6 ⟨rfl, j6, rfl⟩)
            | (go_at_call 188; (with_reducible refine (AT1.out _).mono ?_); rintro e y7 ⟨rfl, j7, rfl⟩)
            | (go_at_call 188; (with_reducible refine (AT2.out _).mono ?_); rintro e y7 ⟨rfl, j7, rfl⟩)
            | (go_at_call 190; (with_reducible refine (JN.out _).mono ?_); rintro e V ⟨rfl, hfV, hkV⟩; have SV := Lib.hid (SW.out.inV hkV hfV); have KV := Lib.hid (hkV.wide (lo' := z) (hi' := z + 6) (by omega) (by omega)); have v0 := kc KV.out m0 (by omega); have v3 := kc KV.out n0 (by omega); have v5 := kc KV.out n2 (by omega); have v7 := kc KV.out nk (by omega); clear hfV hkV))
          all_goals
            clear v0 v3 v5 v7 AT1 AT2 AD1 AD2 JN
            go_wp2
            go_roundw
            case rel => exact ⟨k + 1, by omega, by go_num, by rw [NX.out]; exact SV.out, KW.out.trans KV.out⟩
            case measure => simp [intOf]; omega
      · obtain rfl : k = 4 := by omega
        have i1 : ¬ (4 : Int) < 4 := by omega
        have p1 := SW.out.ptrE
        have TW := Lib.hid (TZ.out.below (KW.out.below (B := z) (Nat.le_refl _) (by omega)) hg0)
        have NW := Lib.hid (NZ.out.below (KW.out.below (B := z) (Nat.le_refl _) (by omega)) hg1)
        have e4 := kc KW.out d4 (by omega)
        have e5 := kc KW.out d5 (by omega)
        have e6 := kc KW.out d6 (by omega)
        have e7 := kc KW.out d7 (by omega)
        go_wp2
        go_loopw [64] (fun i X => ∃ k : Nat, k ≤ 6 ∧ i = .int .i64 k ∧ Sk3 X n z ⟨vI S.v a f tb p 4, eI S.e a f tb p k, S.f.join (4 * a + f) (4 * tb + g) 1⟩ ∧ Kept z (z + 6) W X) (fun i _ => 6 - (intOf i).toNat)
        case atStart => exact ⟨0, by omega, rfl, SW.out, Kept.refl _ _ _⟩
        case round =>
          obtain ⟨X, rfl⟩ : ∃ X : World, X = wr := ⟨_, rfl⟩
          obtain ⟨k, hk, rfl, hS, hK⟩ := hrel
          have SX := Lib.hid hS
          have KX := Lib.hid hK
          have m1 := kc hK m1 (by omega)
          have n0 := kc hK n0 (by omega)
          have n1 := kc hK n1 (by omega)
          have n2 := kc hK n2 (by omega)
          have e4 := kc hK e4 (by omega)
          have e5 := kc hK e5 (by omega)
          have e6 := kc hK e6 (by omega)
          have e7 := kc hK e7 (by omega)
          have TX := Lib.hid (TW.out.below (hK.below (B := z) (Nat.le_refl _) (by have := KW.out.size; omega)) hg0)
          have NX2 := Lib.hid (NW.out.below (hK.below (B := z) (Nat.le_refl _) (by have := KW.out.size; omega)) hg1)
          clear hS hK TW NW p1
          by_cases hlt : k < 6
          · have i2 : (k : Int) < 6 := by omega
            have IF := Lib.hid (inFace_impl k f X hlt TX.out)
            by_cases hkf : inF k f = true
            · have NX := Lib.hid (show eI S.e a f tb p (k + 1) = (eI S.e a f tb p k).join (6 * a + k) (6 * tb + eB p k) (eS p k) from by simp only [eI]; rw [if_pos hkf])
              have EI := Lib.hid (edgeImage_impl k p x0 x1 x2 x3 X hlt hp IM.out TX.out NX2.out)
              have eb6 := (eB_all p hp k hlt).2
              have es := eS_or p k
              obtain ⟨E, hE⟩ : ∃ E, eB p k = E := ⟨_, rfl⟩
              obtain ⟨sg, hsg⟩ : ∃ sg, eS p k = sg := ⟨_, rfl⟩
              rw [hE] at NX EI eb6
              rw [hsg] at NX EI es
              rw [hkf] at IF
              have ES := Lib.hid es
              clear hkf hE hsg es
              go_wp2_with fail
              (with_reducible refine IF.out.mono ?_)
              rintro e w' ⟨rfl, rfl⟩
              go_wp2_with fail
              (with_reducible refine EI.out.mono ?_)
              rintro e Y0 ⟨rfl, hY0⟩
              have SY := Lib.hid (SX.out.below hY0 (by have := SX.out.lt; omega))
              have KY := Lib.hid (KX.out.trans (Kept.of_below hY0 z (z + 6)))
              have m1 := (hY0.cell (p := ⟨w.heap.size, 1, none⟩) (World.block_lt_of_cell? _ _ m1)).trans m1
              have n0 := (hY0.cell (p := ⟨c1, 0, none⟩) (World.block_lt_of_cell? _ _ n0)).trans n0
              have n2 := (hY0.cell (p := ⟨c2, 0, none⟩) (World.block_lt_of_cell? _ _ n2)).trans n2
              have AT1 := Lib.hid (fun m => (SY.out.drewN m).atE ha hlt hn)
              have AT2 := Lib.hid (fun m => (SY.out.drewN m).atE htb eb6 hn)
              have AD1 := Lib.hid (show Calls _ _ _ Y0.drew _ from AT1.out 1)
              have AD2 := Lib.hid (show Calls _ _ _ Y0.drew _ from AT2.out 1)
              have JN := Lib.hid (fun m => foe_join (s := sg) m SY.out.e (show 6 * a + k < 6 * n by omega) (show 6 * tb + E < 6 * n by omega) ES.out)
              clear hY0 e4 e5 e6 e7 EI IF
              go_upto_region 14 with fail
              go_region_held3 (fun Y => Y.cell? ⟨w.heap.size, 1, none⟩ = some (.pointer (some ⟨z + 3, 0, none⟩)) ∧ Y.cell? ⟨c1, 0, none⟩ = some (.int .i64 (a : Int)) ∧ Y.cell? ⟨c2, 0, none⟩ = some (.int .i64 (tb : Int))) (go_keep) (first
                | (go_at_call 188; (with_reducible refine (AD1.out).mono ?_); rintro e y6 ⟨rfl, j6, rfl⟩)
                | (go_at_call 188; (with_reducible refine (AD2.out).mono ?_); rintro e y6 ⟨rfl, j6, rfl⟩)
                | (go_at_call 188; (with_reducible refine (AT1.out _).mono ?_); rintro e y7 ⟨rfl, j7, rfl⟩)
                | (go_at_call 188; (with_reducible refine (AT2.out _).mono ?_); rintro e y7 ⟨rfl, j7, rfl⟩)
                | (go_at_call 190; (with_reducible refine (JN.out _).mono ?_); rintro e V ⟨rfl, hfV, hkV⟩; have SV := Lib.hid (SY.out.inE hkV hfV); have KV := Lib.hid (hkV.wide (lo' := z) (hi' := z + 6) (by omega) (by omega)); have v0 := kc KV.out m1 (by omega); have v3 := kc KV.out n0 (by omega); have v5 := kc KV.out n2 (by omega); clear hfV hkV))
              all_goals
                clear v0 v3 v5 AT1 AT2 AD1 AD2 JN
                go_wp2
                go_roundw
                case rel => exact ⟨k + 1, by omega, by go_num, by rw [NX.out]; exact SV.out, KY.out.trans KV.out⟩
                case measure => simp [intOf]; omega
            · have NX := Lib.hid (show eI S.e a f tb p (k + 1) = eI S.e a f tb p k from by simp only [eI]; rw [if_neg hkf])
              rw [Bool.not_eq_true] at hkf
              rw [hkf] at IF
              clear hkf
              go_wp2_with fail
              (with_reducible refine IF.out.mono ?_)
              rintro e w' ⟨rfl, rfl⟩
              go_wp2
              go_roundw
              case rel => exact ⟨k + 1, by omega, by go_num, by rw [NX.out]; exact SX.out, KX.out⟩
              case measure => simp [intOf]; omega
          · obtain rfl : k = 6 := by omega
            have i2 : ¬ (6 : Int) < 6 := by omega
            go_wp2
            refine bodyPost_end (results_none rfl _ _ _) rfl ?_
            exact ⟨rfl, SX.out, (KZ.out.trans KW.out).trans KX.out⟩
end Sk
end Go.Proofs.YtjendlfophdfeaaDoor

namespace Go.Proofs.YtjendlfophdfeaaDoor
open Go.RowKit
namespace Sk
/-- A list of cells' addresses that the call owns. -/
def OwnP (w : World) (lo hi : Nat) (A : Option Addr) (n c : Nat) (vs : List Value) : Prop :=
  w.ownsRow lo 157 1 (.slice A n c) n vs ∧ ∀ a, A = some a → a.block < hi
theorem OwnP.nil (w : World) (lo hi : Nat) : OwnP w lo hi none 0 0 [] := ⟨World.ownsRow_nil _ _ _ _, fun _ h => by cases h⟩
theorem OwnP.len {w : World} {lo hi n c : Nat} {A : Option Addr} {vs : List Value} (h : OwnP w lo hi A n c vs) : vs.length = n := by have := h.1.1; simpa using this
theorem OwnP.keep {w w' : World} {lo hi n c : Nat} {A : Option Addr} {vs : List Value} (h : OwnP w lo hi A n c vs) (hk : ∀ k, lo ≤ k → k < hi → w'.heap[k]? = w.heap[k]?) : OwnP w' lo hi A n c vs := by
  refine ⟨⟨h.1.1, ?_⟩, h.2⟩
  rcases h.1.2 with h0 | ⟨g, cap, cur, hv, hb, hg, h1, h2, h3, h4⟩
  · exact .inl h0
  · injection hv with e1 e2 e3
    have hlt := h.2 _ e1
    exact .inr ⟨g, cap, cur, by rw [e1, e2, e3], hb, (hk g hb hlt).trans hg, h1, h2, h3, h4⟩
theorem OwnP.below {w w' : World} {lo hi n c B : Nat} {A : Option Addr} {vs : List Value} (h : OwnP w lo hi A n c vs) (hb : Below B w w') (hB : hi ≤ B) : OwnP w' lo hi A n c vs := h.keep fun k _ h2 => hb.block k (by omega)
theorem OwnP.kept {w w' : World} {lo hi lo' hi' n c : Nat} {A : Option Addr} {vs : List Value} (h : OwnP w lo hi A n c vs) (hb : Kept lo' hi' w w') (hw : hi ≤ w.heap.size) (hd : hi ≤ lo' ∨ hi' ≤ lo) : OwnP w' lo hi A n c vs := h.keep fun k h1 h2 => hb.block k (by omega) (by omega)
theorem OwnP.far {w : World} {lo hi n c : Nat} {A : Option Addr} {vs : List Value} (h : OwnP w lo hi A n c vs) {p : Addr} (hp : p.block < lo ∨ hi ≤ p.block) (u : Value) : OwnP (w.setCell p u) lo hi A n c vs := h.keep fun k h1 h2 => Below.heap_setCell w p u k (by omega)
theorem OwnP.wide {w : World} {lo hi lo' hi' n c : Nat} {A : Option Addr} {vs : List Value} (h : OwnP w lo hi A n c vs) (h1 : lo' ≤ lo) (h2 : hi ≤ hi') : OwnP w lo' hi' A n c vs := by
  refine ⟨⟨h.1.1, ?_⟩, fun a ha => by have := h.2 a ha; omega⟩
  rcases h.1.2 with h0 | ⟨g, cap, cur, hv, hb, hg, h3, h4, h5, h6⟩
  · exact .inl h0
  · exact .inr ⟨g, cap, cur, hv, by omega, hg, h3, h4, h5, h6⟩
theorem OwnP.at_ {w : World} {lo hi n c : Nat} {A : Option Addr} {vs : List Value} (h : OwnP w lo hi A n c vs) {k : Nat} (hk : k < n) : ∃ g v, A = some ⟨g, 0, none⟩ ∧ lo ≤ g ∧ g < hi ∧ vs[k]? = some v ∧ w.cell? ⟨g, k, none⟩ = some v := by
  rcases h.1.2 with ⟨h0, h00⟩ | ⟨g, cap, cur, hv, hb, hg, h1, h2, h3, h4⟩
  · have := h.len; simp_all
  · injection hv with e1 e2 e3
    have hln := h.len
    have hkl : k < vs.length := by omega
    refine ⟨g, vs[k], e1, hb, h.2 _ e1, List.getElem?_eq_getElem hkl, ?_⟩
    rw [cell_of_row w g k _ _ (0, 0) hg]
    have h5 : (cur.toList.take (n * 1))[k]? = some vs[k] := by rw [h4]; exact List.getElem?_eq_getElem hkl
    rw [List.getElem?_take, if_pos (by omega)] at h5
    simpa using h5
theorem infoP : (Tryd.prog.info? 157).map (fun i => (i.zero, i.size, i.bytes)) = some (some (.pointer none), 1, 8) := by kernel_rfl
/-- An address is appended. -/
theorem push_ptr {w : World} {ops : Array Oper} {rest : List Oper} {o : Oper} {a : Act} {Q : Exit → Act → World → Prop} (hgd : o.guard = none) (s x : Operand) (ho : o.op = .call { callee := .builtin .append, args := #[s, x], argTypes := #[153, 153] })
    (lo hi c n g : Nat) (A : Option Addr) (vs : List Value) (p : Option Addr) (hs : a.eval s = .slice A n c) (hown : OwnP w lo hi A n c vs) (hx : a.eval x = .slice (some ⟨g, 0, none⟩) 1 1) (hc : w.cell? ⟨g, 0, none⟩ = some (.pointer p)) (hlo : lo ≤ w.heap.size) (hlen : n ≤ 1048576)
    (h : ∀ A' c' w', OwnP w' lo w'.heap.size A' (n + 1) c' (vs ++ [.pointer p]) → Kept lo hi w w' → wpList Tryd.prog ops Q rest (a.put o.dst (.slice A' (n + 1) c')) w') : wpList Tryd.prog ops Q (o :: rest) a w := by
  obtain ⟨ti, hi0, hz0, hz1, hz2⟩ := info_parts infoP
  have hrow := hown.1
  have htop := hown.2
  refine wpList_append_lies w hgd s x 153 ho lo 157 ti _ 1 8 Tryd.underlying153 hi0 hz0 hz1 hz2 rfl (by decide) (.slice A n c) n vs hs hrow ⟨g, 0, none⟩ 1 1 [.pointer p] hx rfl
    (by intro j u hj; cases j with | zero => (simp at hj; subst hj; simpa [Addr.add] using hc) | succ j => simp at hj) (by intro u hu; simp at hu; subst hu; rfl) (by omega) (by unfold maxLen; omega) (by omega) hlo _ rfl ?_
  intro g' cap w' h1 hg hat hlt
  have hob : ∀ k, (Value.slice A n c).ownBlock = some k → lo ≤ k ∧ k < hi := fun k hk => by
    cases A with
    | none => simp [Value.ownBlock] at hk
    | some p =>
      have h2 := htop p rfl
      have h4 := (World.ownsRow.lt hrow k hk).1
      simp [Value.ownBlock] at hk
      subst hk
      exact ⟨h4, h2⟩
  exact h (some ⟨g', 0, none⟩) cap w' ⟨h1, fun a ha => by cases ha; exact hlt⟩ (Wd.kept_grown hg fun k hk => hob k hk)
end Sk
end Go.Proofs.YtjendlfophdfeaaDoor

namespace Go.Proofs.YtjendlfophdfeaaDoor
open Go.RowKit
namespace Sk
/-- The roots among the first elements. -/
def rtl (m : List Int) : Nat → List Nat
  | 0 => []
  | i + 1 => if m.getD i 0 = (i : Int) then rtl m i ++ [i] else rtl m i
theorem rtl_len (m : List Int) (k : Nat) : (rtl m k).length = rk m k := by
  induction k with
  | zero => rfl
  | succ k ih => simp only [rtl, rk]; split <;> simp [ih]
def rts (g : Nat) (m : List Int) (k : Nat) : List Value := (rtl m k).map fun i => .pointer (some ⟨g, i * 6, none⟩)
/-- The classes that are known, the cells that are known to be in the boundary. -/
def clF (m : List Int) (k : Nat) : Nat → Int := fun j => if j < k ∧ m.getD j 0 = (j : Int) then (rk m j : Int) else 0
def nB (F : FS) : Nat → Nat → Bool
  | 0 => F.bd
  | k + 1 => fun j => if j = (F.m.getD k 0).toNat then (nB F k j || nB F k k) else nB F k j
theorem clF_yes {m : List Int} {k : Nat} (h : m.getD k 0 = (k : Int)) : (fun j => if j = k then (rk m k : Int) else clF m k j) = clF m (k + 1) := by
  funext j
  unfold clF
  by_cases e : j = k
  · subst e; rw [if_pos rfl, if_pos ⟨by omega, h⟩]
  · rw [if_neg e]
    by_cases e2 : j < k ∧ m.getD j 0 = (j : Int)
    · rw [if_pos e2, if_pos ⟨by omega, e2.2⟩]
    · rw [if_neg e2, if_neg (fun e3 => e2 ⟨by omega, e3.2⟩)]
theorem clF_no {m : List Int} {k : Nat} (h : m.getD k 0 ≠ (k : Int)) : clF m (k + 1) = clF m k := by
  funext j
  unfold clF
  by_cases e2 : j < k ∧ m.getD j 0 = (j : Int)
  · rw [if_pos e2, if_pos ⟨by omega, e2.2⟩]
  · rw [if_neg e2, if_neg (fun e3 => e2 ⟨Nat.lt_of_le_of_ne (Nat.le_of_lt_succ e3.1) (fun e => h (e ▸ e3.2)), e3.2⟩)]
theorem kcM {lo hi o c : Nat} {u : Value} {w w' : World} (h : Kept lo hi w w') (h3 : w.cell? ⟨o, c, none⟩ = some u) (h2 : ¬ (lo ≤ o ∧ o < hi)) : w'.cell? ⟨o, c, none⟩ = some u :=
  (World.cell?_of_block (a := ⟨o, c, none⟩) (h.block o (World.block_lt_of_cell? w _ h3) h2)).trans h3
theorem kept_off {lo hi lo' hi' : Nat} {a b d : World} (h : Kept lo hi a b) (k : Kept lo' hi' b d) (hl : a.heap.size ≤ lo') : Kept lo hi a d :=
  ⟨k.os.trans h.os, k.tape.trans h.tape, k.output.trans h.output, Nat.le_trans h.size k.size, fun i hi hn => (k.block i (Nat.lt_of_lt_of_le hi h.size) (by omega)).trans (h.block i hi hn)⟩
/-- What number leaves. -/
def NumD (g N wd : Nat) (F : FS) (w : World) (e : Ending) (w' : World) : Prop :=
  e = .returned (.tuple #[]) ∧ ∃ A c, BoxF w' (g + 1) g N wd A (rk F.m N) c ∧ OwnP w' w.heap.size w'.heap.size A (rk F.m N) c (rts g F.m N) ∧ FoE w' g N { F with bd := nB F N } (clF F.m N) ∧ Kept g (g + 2) w w'
set_option maxRecDepth 100000 in
set_option maxHeartbeats 16000000 in
theorem number_impl (g N wd : Nat) (F : FS) (w : World) (hb : BoxF w (g + 1) g N wd none 0 0) (hfr : Free w (g + 1)) (h : FoE w g N F (fun _ => 0)) (hN : N ≤ 48) :
    Calls Tryd.prog 162 #[.pointer (some ⟨g + 1, 0, none⟩)] w (NumD g N wd F w) := by
  obtain ⟨par, sg, h⟩ := h
  have hg1 : g + 1 < w.heap.size := World.block_lt_of_cell? w _ hb.1
  have c0 : (fun _ => (0 : Int)) = clF F.m 0 := by funext j; unfold clF; rw [if_neg (by omega)]
  have B0 := Lib.hid hb
  have F0 := Lib.hid (show Fo w g N { F with bd := nB F 0 } par sg (clF F.m 0) from by rw [← c0]; exact h)
  have FR := Lib.hid hfr
  have TR := Lib.hid h.tree
  have k1 := hb.2.1
  clear h c0 hb hfr
  go_enter Tryd.func162, Tryd.ntmps162
  go_wp2
  go_loopw [11] (fun i W => ∃ (k c : Nat) (A : Option Addr), k ≤ N ∧ i = .int .i64 k ∧ BoxF W (g + 1) g N wd A (rk F.m k) c ∧ OwnP W w.heap.size W.heap.size A (rk F.m k) c (rts g F.m k) ∧ Fo W g N { F with bd := nB F k } par sg (clF F.m k) ∧ Kept g (g + 2) w W ∧ Free W (g + 1)) (fun i _ => N - (intOf i).toNat)
  case atStart => exact ⟨0, 0, none, Nat.zero_le _, rfl, B0.out, OwnP.nil _ _ _, F0.out, Kept.refl _ _ _, FR.out⟩
  case round =>
    obtain ⟨W, rfl⟩ : ∃ W : World, W = wr := ⟨_, rfl⟩
    obtain ⟨k, c, A, hk, rfl, hbx, hown, hF, hK, hfr⟩ := hrel
    have FW := Lib.hid hF
    have KW := Lib.hid hK
    have OW := Lib.hid hown
    have FRW := Lib.hid hfr
    obtain ⟨x0, x1, x2⟩ := hbx
    have zW : w.heap.size ≤ W.heap.size := hK.size
    have rb := rk_le F.m k
    clear hown hF hK hfr F0 FR B0 k1
    by_cases hlt : k < N
    case neg =>
      obtain rfl : N = k := by omega
      have i1 : ¬ (N : Int) < (N : Int) := by omega
      have BX := Lib.hid (show BoxF W (g + 1) g N wd A (rk F.m N) c from ⟨x0, x1, x2⟩)
      go_wp2
      refine bodyPost_end (results_none rfl _ _ _) rfl ?_
      exact ⟨rfl, A, c, BX.out, OW.out, ⟨par, sg, FW.out⟩, KW.out⟩
    have i0 : (0 : Int) ≤ (k : Int) := by omega
    have i1 : (k : Int) < (N : Int) := by omega
    obtain ⟨r, hr, hrk, -, hrr⟩ := TR.out.root k hlt
    have RC := Lib.hid (show Calls Tryd.prog 164 #[.pointer (some ⟨g, k * 6, none⟩)] W fun e w' => e = .returned (.tuple #[.pointer (some ⟨g, r * 6, none⟩), .int .i64 (F.ss k)]) ∧ Below W.heap.size W w' from by
      have := root_impl g N k _ par sg _ W FW.out hlt
      dsimp only at this
      rwa [hr, Int.toNat_natCast] at this)
    obtain ⟨s, hs⟩ : ∃ s, F.ss k = s := ⟨_, rfl⟩
    rw [hs] at RC
    have RK := Lib.hid (show rk F.m (k + 1) = rk F.m k + if F.m.getD k 0 = (k : Int) then 1 else 0 from rfl)
    have RT := Lib.hid (show rts g F.m (k + 1) = if F.m.getD k 0 = (k : Int) then rts g F.m k ++ [.pointer (some ⟨g, k * 6, none⟩)] else rts g F.m k from by
      unfold rts; simp only [rtl]; split <;> simp)
    have NB := Lib.hid (show nB F (k + 1) = fun j => if j = r then (nB F k r || nB F k k) else nB F k j from by
      simp only [nB]; rw [hr, Int.toNat_natCast]; funext j
      by_cases e : j = r
      · rw [e]
      · rw [if_neg e, if_neg e])
    have CY := Lib.hid (fun h => clF_yes (m := F.m) (k := k) h)
    have CN := Lib.hid (fun h => clF_no (m := F.m) (k := k) h)
    obtain ⟨R, hR⟩ : ∃ R, rk F.m k = R := ⟨_, rfl⟩
    rw [hR] at RK CY OW x2 rb
    have HR := Lib.hid hr
    obtain ⟨nr, hnr⟩ : ∃ nr, nB F k r = nr := ⟨_, rfl⟩
    obtain ⟨nk, hnk⟩ : ∃ nk, nB F k k = nk := ⟨_, rfl⟩
    rw [hnr, hnk] at NB
    have HNR := Lib.hid hnr
    have HNK := Lib.hid hnk
    have rN : r < N := by omega
    clear hs hr hR hnr hnk hrr
    go_wp2_with fail
    (with_reducible refine RC.out.mono ?_)
    rintro e w1 ⟨rfl, hb1⟩
    have F1 := Lib.hid (FW.out.below hb1 (by omega))
    have K1 := Lib.hid (KW.out.trans (Kept.of_below hb1 g (g + 2)))
    have O1 := Lib.hid (OW.out.below hb1 (Nat.le_refl _))
    have FR1 := Lib.hid (FRW.out.below hb1 (show g + 1 < W.heap.size by omega))
    have x0 := (hb1.cell (p := ⟨g + 1, 0, none⟩) (by dsimp only; omega)).trans x0
    have x1 := (hb1.cell (p := ⟨g + 1, 1, none⟩) (by dsimp only; omega)).trans x1
    have x2 := (hb1.cell (p := ⟨g + 1, 2, none⟩) (by dsimp only; omega)).trans x2
    have z1 := hb1.size
    obtain ⟨_, hblk⟩ := F1.out.blk
    clear hb1 RC FW KW OW FRW
    by_cases hrk2 : r = k
    · have PE := eql_same (some ⟨g, k * 6, none⟩) w1
      obtain rfl : k = r := hrk2.symm
      have Y1 := Lib.hid (CY.out HR.out)
      have Y2 := Lib.hid (show rk F.m (k + 1) = R + 1 from by rw [RK.out, if_pos HR.out])
      have Y3 := Lib.hid (show rts g F.m (k + 1) = rts g F.m k ++ [.pointer (some ⟨g, k * 6, none⟩)] from by rw [RT.out, if_pos HR.out])
      have c3 := (F1.out.cell k hlt).cls
      have f3 := F1.out.free (k * 6 + 3)
      obtain ⟨V, hV⟩ : ∃ V, V = w1.setCell ⟨g, k * 6 + 3, none⟩ (.int .i64 (R : Int)) := ⟨_, rfl⟩
      have FV := Lib.hid (show Fo V g N { F with bd := nB F k } par sg (clF F.m (k + 1)) from by rw [hV, ← Y1.out]; exact F1.out.setCl (R : Int))
      have KV := Lib.hid (show Kept g (g + 2) w V from by rw [hV]; exact K1.out.set_ (p := ⟨g, k * 6 + 3, none⟩) (Nat.le_refl _) (by dsimp only; omega) _)
      have OV := Lib.hid (show OwnP V w.heap.size W.heap.size A R c (rts g F.m k) from by rw [hV]; exact O1.out.far (p := ⟨g, k * 6 + 3, none⟩) (.inl (by dsimp only; omega)) _)
      have FRV := Lib.hid (show Free V (g + 1) from by rw [hV]; exact free_set FR1.out _ _)
      have v0 : V.cell? ⟨g + 1, 0, none⟩ = some (.int .i64 (wd : Int)) := by rw [hV, World.cell?_setCell_other _ _ _ _ (by simp)]; exact x0
      have v1 : V.cell? ⟨g + 1, 1, none⟩ = some (.slice (some ⟨g, 0, none⟩) N N) := by rw [hV, World.cell?_setCell_other _ _ _ _ (by simp)]; exact x1
      have v2 : V.cell? ⟨g + 1, 2, none⟩ = some (.slice A R c) := by rw [hV, World.cell?_setCell_other _ _ _ _ (by simp)]; exact x2
      have zV : V.heap.size = w1.heap.size := by rw [hV]; simp [World.setCell]
      have ZV := Lib.hid zV
      have zV1 : W.heap.size ≤ V.heap.size := by omega
      clear zV
      go_upto_region 7 with fail
      rw [← hV]
      clear hV c3 f3 F1 K1 O1 FR1 x0 x1 x2
      go_upto_region 8 with (at_builtin; refine push_ptr rfl _ _ rfl w.heap.size W.heap.size c R V.heap.size A (rts g F.m k) (some ⟨g, k * 6, none⟩) rfl (by exact OV.out.below (al1 V _) (by omega)) rfl (by simp [go_sem]) (by simp; omega) (by omega) ?_; intro A7 c7 w7 h5 h6; have O7 := Lib.hid h5; have K7 := Lib.hid ((Kept.of_below (al1 V (Obj.cells #[Value.pointer (some ⟨g, k * 6, none⟩)] 157)) w.heap.size W.heap.size).trans h6); have s7 := h6.size; have u2 := kcM K7.out v2 (by omega); have g2 := ((FRV.out.kept K7.out (by omega) (by omega)) 2); clear h5 h6)
      have gA : ¬ g = g + 1 := by omega
      have gB : ¬ g + 1 = g := by omega
      obtain ⟨X, hX⟩ : ∃ X, X = w7.setCell ⟨g + 1, 2, none⟩ (.slice A7 (R + 1) c7) := ⟨_, rfl⟩
      have F7 := Lib.hid (FV.out.kept K7.out (by omega))
      have FX := Lib.hid (show Fo X g N { F with bd := nB F k } par sg (clF F.m (k + 1)) from by rw [hX]; exact F7.out.far (a := ⟨g + 1, 2, none⟩) gA _)
      have KX := Lib.hid (show Kept g (g + 2) w X from by rw [hX]; exact (kept_off KV.out K7.out (Nat.le_refl _)).set_ (p := ⟨g + 1, 2, none⟩) (by dsimp only; omega) (by dsimp only; omega) _)
      have OX := Lib.hid (show OwnP X w.heap.size X.heap.size A7 (R + 1) c7 (rts g F.m k ++ [.pointer (some ⟨g, k * 6, none⟩)]) from by rw [hX]; exact (O7.out.far (p := ⟨g + 1, 2, none⟩) (.inl (by dsimp only; omega)) _).wide (Nat.le_refl _) (by simp [World.setCell]))
      have FRX := Lib.hid (show Free X (g + 1) from by rw [hX]; exact free_set (FRV.out.kept K7.out (by omega) (by omega)) _ _)
      have y0 : X.cell? ⟨g + 1, 0, none⟩ = some (.int .i64 (wd : Int)) := by rw [hX, World.cell?_setCell_other _ _ _ _ (by simp)]; exact kcM K7.out v0 (by omega)
      have y1 : X.cell? ⟨g + 1, 1, none⟩ = some (.slice (some ⟨g, 0, none⟩) N N) := by rw [hX, World.cell?_setCell_other _ _ _ _ (by simp)]; exact kcM K7.out v1 (by omega)
      have y2 : X.cell? ⟨g + 1, 2, none⟩ = some (.slice A7 (R + 1) c7) := by rw [hX]; exact World.cell?_setCell_same _ _ _ u2
      have c5 := (FX.out.cell k hlt).bnd
      dsimp only at c5
      rw [HNK.out] at c5
      have f5 := FX.out.free (k * 6 + 5)
      rw [← hX]
      clear hX u2 g2 F7 FV KV K7 O7 OV FRV v0 v1 v2
      obtain rfl : nr = nk := by rw [← HNR.out, ← HNK.out]
      have SB := Lib.hid (fun x => FX.out.setBd' (i := k) x)
      have NBX := Lib.hid (show nB F (k + 1) = fun j => if j = k then nr else nB F k j from by rw [NB.out, Bool.or_self])
      have z7 : w.heap.size ≤ X.heap.size := KX.out.size
      cases nr
      all_goals
        go_wp2
        go_roundw
        case rel =>
          refine ⟨k + 1, c7, A7, by omega, by go_num, ?_, ?_, ?_, KX.out.set_ (p := ⟨g, k * 6 + 5, none⟩) (Nat.le_refl _) (by dsimp only; omega) _, free_set FRX.out _ _⟩
          · rw [Y2.out]
            exact ⟨by rw [World.cell?_setCell_other _ _ _ _ (by simp)]; exact y0, by rw [World.cell?_setCell_other _ _ _ _ (by simp)]; exact y1, by rw [World.cell?_setCell_other _ _ _ _ (by simp)]; exact y2⟩
          · rw [Y2.out, Y3.out]
            exact (OX.out.far (p := ⟨g, k * 6 + 5, none⟩) (.inl (by dsimp only; omega)) _).wide (Nat.le_refl _) (by simp [World.setCell])
          · rw [NBX.out]
            exact SB.out _
        case measure => simp [intOf]; omega
    · have PE := eql_other (a := r * 6) (b := k * 6) hblk (by omega)
      have ne : F.m.getD k 0 ≠ (k : Int) := by rw [HR.out]; omega
      have Y1 := Lib.hid (CN.out ne)
      have Y2 := Lib.hid (show rk F.m (k + 1) = R from by rw [RK.out, if_neg ne]; rfl)
      have Y3 := Lib.hid (show rts g F.m (k + 1) = rts g F.m k from by rw [RT.out, if_neg ne])
      have c5 := (F1.out.cell r rN).bnd
      have c6 := (F1.out.cell k hlt).bnd
      dsimp only at c5 c6
      rw [HNR.out] at c5
      rw [HNK.out] at c6
      have f5 := F1.out.free (r * 6 + 5)
      have SB := Lib.hid (fun x => F1.out.setBd' (i := r) x)
      have gB : ¬ g + 1 = g := by omega
      clear ne hblk
      cases nr <;> cases nk
      all_goals
        go_wp2
        go_roundw
        case rel =>
          refine ⟨k + 1, c, A, by omega, by go_num, ?_, ?_, ?_, K1.out.set_ (p := ⟨g, r * 6 + 5, none⟩) (Nat.le_refl _) (by dsimp only; omega) _, free_set FR1.out _ _⟩
          · rw [Y2.out]
            exact ⟨by rw [World.cell?_setCell_other _ _ _ _ (by simp)]; exact x0, by rw [World.cell?_setCell_other _ _ _ _ (by simp)]; exact x1, by rw [World.cell?_setCell_other _ _ _ _ (by simp)]; exact x2⟩
          · rw [Y2.out, Y3.out]
            exact (O1.out.far (p := ⟨g, r * 6 + 5, none⟩) (.inl (by dsimp only; omega)) _).wide (Nat.le_refl _) (by simp [World.setCell]; omega)
          · rw [NB.out, Y1.out]
            exact SB.out _
        case measure => simp [intOf]; omega
end Sk
end Go.Proofs.YtjendlfophdfeaaDoor

namespace Go.Proofs.YtjendlfophdfeaaDoor
open Go.RowKit

theorem ResLM.nil (w : World) {W : World} (A : Option Addr) (hb : Below w.heap.size w W) : ResLM w [] (.returned (.slice A 0 0)) W := ⟨A, 0, rfl, ⟨Nat.le_refl _, Nat.zero_le _⟩, Mine.none_ _ _ _ _, hb⟩
/-- What is handed back for a list that is perhaps no word. -/
def Wd.ifW (l r : List Int) : List Int := if isW 24 l = true then r else []
theorem Wd.ifW_yes {l r : List Int} (h : isW 24 l = true) : ifW l r = r := if_pos h
theorem Wd.ifW_no {l r : List Int} (h : isW 24 l = false) : ifW l r = [] := if_neg (by rw [h]; simp)
theorem Wd.ifW_len {l r : List Int} (h : r.length ≤ l.length) : (ifW l r).length ≤ l.length := by
  unfold ifW
  split
  · exact h
  · simp

/-- How long a slice is. -/
def lenOf (v : Value) : Int := match v with | .slice _ n _ => (n : Int) | _ => 0
/-- A list from which ends are taken off: a part of memory of the call's own. -/
def CyS (w : World) (zs : List Int) (out : Value) (W : World) : Prop :=
  ∃ (A : Option Addr) (l : List Int) (c : Nat), out = .slice A l.length c ∧ l.length ≤ c ∧ c ≤ maxLen ∧ l.length ≤ 120 ∧ Wd.Sm l ∧ Mine W w.heap.size W.heap.size A l.length l ∧ Wd.cyc l = Wd.cyc (Wd.rd zs) ∧ Below w.heap.size w W
theorem Wd.mid_cut (l : List Int) (h : 1 < l.length) : l.tail.dropLast = Lau.cut l 1 (l.length - 1) := by
  have e : 1 + (l.length - 1 - 1) = l.length - 1 := by omega
  rw [Lau.cut, List.dropLast_eq_take, List.length_tail, ← List.drop_one, List.take_drop, e]
theorem Wd.cut_sm {l : List Int} (h : Sm l) (i j : Nat) : Sm (Lau.cut l i j) := fun x hx => h x (List.mem_of_mem_take (List.mem_of_mem_drop hx))

theorem al1d (w : World) (n : Nat) (o : Obj) : Below w.heap.size w ((w.drewN n).alloc o) := (Go.Joins.below_draws w.heap.size w n).trans (al1 (w.drewN n) o)
/-- A list that has been appended to an empty one. -/
theorem ResLM.push {w W : World} {lo c : Nat} {A : Option Addr} {l : List Int} (hb : Below w.heap.size w W) (h : Own W lo W.heap.size A (0 + l.length) c ([] ++ l)) (hlo : w.heap.size ≤ lo) : ResLM w l (.returned (.slice A l.length c)) W := by
  rw [Nat.zero_add, List.nil_append] at h
  exact ⟨A, c, rfl, Wd.own_caps h, h.mine.wide hlo (Nat.le_refl _), hb⟩

end Go.Proofs.YtjendlfophdfeaaDoor

namespace Go.Proofs.YtjendlfophdfeaaDoor
open Go.RowKit

/-- What an append of a row leaves. -/
theorem OwnS.pushed {w w' : World} {lo hi lo2 c g' cap : Nat} {A : Option Addr} {rs : List Rw} {r : Rw} (hown : OwnS w lo hi A c rs) (hr : r.In w lo2 w.heap.size) (h12 : hi ≤ lo2) (hlo2 : lo ≤ lo2) (hhi : hi ≤ w.heap.size)
    (h1 : w'.ownsRow lo 48 1 (.slice (some ⟨g', 0, none⟩) (rs.length + 1) cap) (rs.length + 1) (rs.map Rw.sv ++ [r.sv])) (hg : w.grownBy w' (Value.slice A rs.length c).ownBlock) (hat : (Value.slice A rs.length c).ownBlock = some g' ∨ g' = w.heap.size) (hlt : g' < w'.heap.size) :
    OwnS w' lo w'.heap.size (some ⟨g', 0, none⟩) cap (rs ++ [r]) ∧ Kept lo hi w w' := by
  have hob : ∀ k, (Value.slice A rs.length c).ownBlock = some k → lo ≤ k ∧ k < hi ∧ ∀ q ∈ rs, q.Off k := fun k hk => by
    cases A with
    | none => simp [Value.ownBlock] at hk
    | some p =>
      have h2 := hown.top p rfl
      have h3 := fun q hq => hown.off q hq p rfl
      have h4 := (World.ownsRow.lt hown.row k hk).1
      simp [Value.ownBlock] at hk
      subst hk
      exact ⟨h4, h2, h3⟩
  have hk : Kept lo hi w w' := Wd.kept_grown hg fun k hk => ⟨(hob k hk).1, (hob k hk).2.1⟩
  have hrw : r.In w' lo w'.heap.size := (hr.grown hg fun k hk => hr.off (.inl (by have := (hob k hk).2.1; omega))).wide hlo2 hg.size
  refine ⟨⟨?_, (fun a ha => by cases ha; exact hlt), fun q hq => ?_, fun q hq a ha => ?_, ?_⟩, hk⟩
  · rw [List.length_append, List.map_append]
    exact h1
  · rcases List.mem_append.1 hq with hq | hq
    · exact ((hown.mine q hq).grown hg fun k hk => (hob k hk).2.2 q hq).wide (Nat.le_refl _) (Nat.le_trans hhi hg.size)
    · simp at hq; subst hq
      exact hrw
  · cases ha
    dsimp only
    rcases hat with hat | hat
    · rcases List.mem_append.1 hq with hq | hq
      · exact (hob _ hat).2.2 q hq
      · simp at hq; subst hq
        exact hr.off (.inl (by have := (hob _ hat).2.1; omega))
    · rcases List.mem_append.1 hq with hq | hq
      · exact (hown.mine q hq).off (.inr (by omega))
      · simp at hq; subst hq
        exact hr.off (.inr (by omega))
  · rw [List.pairwise_append]
    exact ⟨hown.apart, List.pairwise_singleton _ _, fun q hq q' hq' => by simp at hq'; subst hq'; exact Apart.of_in (hown.mine q hq) hr (.inl h12)⟩

/-- A row is appended at a step of a region that draws its order. -/
theorem step_push_row {w : World} {ops : Array Oper} {o : Oper} {a : Act} {K : Act → World → Prop} {Q : Exit → Act → World → Prop} {E : Prop} (hgd : o.guard = none) (s x : Operand) (ho : o.op = .call { callee := .builtin .append, args := #[s, x], argTypes := #[56, 56] })
    (lo hi lo2 c n g : Nat) (A : Option Addr) (rs : List Rw) (r : Rw) (hs : a.eval s = .slice A n c) (hn : rs.length = n) (hown : OwnS w lo hi A c rs) (hx : a.eval x = .slice (some ⟨g, 0, none⟩) 1 1) (hc : w.cell? ⟨g, 0, none⟩ = some r.sv) (hr : r.In w lo2 w.heap.size) (h12 : hi ≤ lo2) (hlo2 : lo ≤ lo2) (hlo : lo ≤ w.heap.size) (hhi : hi ≤ w.heap.size) (hlen : n ≤ 1048576)
    (h : ∀ A' c' w', OwnS w' lo w'.heap.size A' c' (rs ++ [r]) → Kept lo hi w w' → K (a.put o.dst (.slice A' (n + 1) c')) w') : if Region.wanted o (yielded ops a.tmps) = true then Oper.wp Tryd.prog o a w K Q else E := by
  obtain ⟨ti, hi0, hz0, hz1, hz2⟩ := info_parts infoS
  subst hn
  refine step_append_lies w hgd s x 56 ho lo 48 ti _ 1 24 Tryd.underlying56 hi0 hz0 hz1 hz2 rfl (by decide) (.slice A rs.length c) rs.length (rs.map Rw.sv) hs hown.row ⟨g, 0, none⟩ 1 1 [r.sv] hx rfl
    (by intro j u hj; cases j with | zero => (simp at hj; subst hj; simpa [Addr.add] using hc) | succ j => simp at hj) (by intro u hu; simp at hu; subst hu; rfl) (by omega) (by unfold maxLen; omega) (by omega) hlo _ rfl ?_
  intro g' cap w' h1 hg hat hlt
  obtain ⟨q1, q2⟩ := hown.pushed hr h12 hlo2 hhi h1 hg hat hlt
  exact h _ _ _ q1 q2

/-- A presentation in a box at cb, its rows from block lo on; nothing below the box has changed since V. -/
structure PBox (V : World) (cb lo : Nat) (r : Int) (qs : List Rw) (W : World) : Prop where
  box : ∃ A c, BoxG W cb (.int .i64 r) (.slice A qs.length c) ∧ OwnS W lo W.heap.size A c qs
  fr : Free W cb
  lt : cb < W.heap.size
  bel : Below cb V W
  lo : cb < lo
section
variable {V W W' : World} {cb lo : Nat} {r : Int} {qs : List Rw}
theorem PBox.below (h : PBox V cb lo r qs W) (hb : Below W.heap.size W W') : PBox V cb lo r qs W' := by
  obtain ⟨⟨A, c, h1, h2⟩, h3, h4, h5, h6⟩ := h
  exact ⟨⟨A, c, h1.below hb h4, (h2.below hb (Nat.le_refl _)).wide (Nat.le_refl _) hb.size⟩, h3.below hb h4, Nat.lt_of_lt_of_le h4 hb.size, h5.trans (hb.mono (by omega)), h6⟩
theorem BoxG.set1_ {b : Nat} {x y u : Value} (h : BoxG W b x y) : BoxG (W.setCell ⟨b, 1, none⟩ u) b x u := ⟨by simp [h.1, go_sem], by simp [h.2, go_sem]⟩
theorem Free.setA {g : Nat} (h : Free W g) (p : Addr) (u : Value) : Free (W.setCell p u) g := fun o => by
  have := h o
  simp [this, go_sem]
theorem PBox.pushed {w6 w7 : World} {o : Obj} {A7 A8 : Option Addr} {c7 c8 hi : Nat} {r6 : Rw} {n : Nat} (h : PBox V cb lo r qs W) (hb : Below W.heap.size W w6) (hn : qs.length = n)
    (h5 : OwnS w7 lo w7.heap.size A7 c7 (qs ++ [r6])) (h6 : Kept lo hi (w6.alloc o) w7) (hA : A7 = A8) (hc : c7 = c8) : PBox V cb lo r (qs ++ [r6]) (w7.setCell ⟨cb, 1, none⟩ (.slice A8 (n + 1) c8)) := by
  subst hA hc hn
  obtain ⟨A, c, h1, h2⟩ := h.box
  have hl := h.lt
  have hlo := h.lo
  have hs := hb.size
  have hz : (w7.setCell ⟨cb, 1, none⟩ (.slice A7 (qs.length + 1) c7)).heap.size = w7.heap.size := by simp [World.setCell]
  have h7 := ((h1.below hb hl).below (al1 w6 o) (by omega)).kept h6 (by simp; omega) (by omega)
  have h8 := ((h.fr.below hb hl).below (al1 w6 o) (by omega)).kept h6 (by simp; omega) (by omega)
  have h9 := h6.size
  simp only [World.size_alloc] at h9
  refine ⟨⟨A7, c7, ?_, ?_⟩, h8.setA _ _, by rw [hz]; omega, ?_, hlo⟩
  · rw [List.length_append]
    exact h7.set1_
  · rw [hz]
    exact h5.far (.inl hlo) _
  · exact ((h.bel.trans (hb.mono (by omega))).trans (((al1 w6 o).mono (by omega)).trans (h6.below (by omega) (by simp; omega)))).setCell (Nat.le_refl _) _
end

/-- A presentation with its rows in new memory. -/
def ResPr (w : World) (r : Int) (zss : List (List Int)) (e : Ending) (w' : World) : Prop :=
  ∃ A c rs, e = .returned (.agg #[.int .i64 r, .slice A rs.length c]) ∧ OwnS w' w.heap.size w'.heap.size A c rs ∧ vals rs = zss ∧ Below w.heap.size w w'
theorem ResPr.fin {w W : World} {cb lo b : Nat} {r : Int} {qs : List Rw} {zss : List (List Int)} {x y : Value} {V : World} {A : Option Addr} {c : Nat} (hp : PBox V cb lo r qs W) (hA : OwnS W lo W.heap.size A c qs) (hV : Below w.heap.size w V) (hb : w.heap.size ≤ b) (hbc : b < cb) (hz : vals qs = zss) :
    ResPr w r zss (.returned (.agg #[.int .i64 r, .slice A qs.length c])) ((W.setCell ⟨b, 0, none⟩ x).setCell ⟨b, 1, none⟩ y) := by
  have hlt := hp.lt
  have hlo := hp.lo
  refine ⟨A, c, qs, rfl, ?_, hz, ?_⟩
  · exact ((hA.far (p := ⟨b, 0, none⟩) (.inl (by dsimp only; omega)) _).far (p := ⟨b, 1, none⟩) (.inl (by dsimp only; omega)) _).wide (by omega) (by simp [World.setCell])
  · exact ((hV.trans (hp.bel.mono (by omega))).setCell hb _).setCell hb _

end Go.Proofs.YtjendlfophdfeaaDoor

namespace Go.Proofs.YtjendlfophdfeaaDoor
open Go.RowKit
namespace Sk
theorem fresh_succ (n : Nat) : fresh (n + 1) = fresh n ++ [(n : Int)] := by simp [fresh, List.range_succ]
/-- A list of the call's own. -/
def ResO (w : World) (l : List Int) (e : Ending) (w' : World) : Prop := ∃ A n c, e = .returned (.slice A n c) ∧ l.length = n ∧ Own w' w.heap.size w'.heap.size A n c l ∧ Below w.heap.size w w'
set_option maxRecDepth 100000 in
set_option maxHeartbeats 4000000 in
theorem fresh_spec (N : Nat) (w : World) (hN : N ≤ 1000) : Calls Tryd.prog 155 #[.int .i64 (N : Int)] w (ResO w (fresh N)) := by
  go_enter Tryd.func155, Tryd.ntmps155
  go_wp2
  obtain ⟨W5, hW5⟩ : ∃ W5, W5 = w.alloc (Obj.cells #[] 2) := ⟨_, rfl⟩
  have E5 := Lib.hid (show Own W5 w.heap.size W5.heap.size (some ⟨w.heap.size, 0, none⟩) 0 0 (fresh 0) from by rw [hW5]; exact (Wd.own_nil w).wide (Nat.le_refl _) (by simp))
  have D5 := Lib.hid (show Below w.heap.size w W5 from by rw [hW5]; exact al1 w _)
  rw [← hW5]
  clear hW5
  go_loopw [4, 3] (fun i v W => ∃ (x : Nat) (A2 : Option Addr) (c2 : Nat), i = .int .i64 x ∧ v = .slice A2 x c2 ∧ x ≤ N ∧ Own W w.heap.size W.heap.size A2 x c2 (fresh x) ∧ Below w.heap.size w W) (fun i _ _ => N - (intOf i).toNat)
  case atStart => exact ⟨0, _, 0, rfl, rfl, Nat.zero_le _, E5.out, D5.out⟩
  case round =>
    obtain ⟨x, A2, c2, rfl, rfl, hx, ho, hb⟩ := hrel
    have O := Lib.hid ho
    have D := Lib.hid hb
    have ds := hb.size
    clear ho hb
    by_cases hlt : x < N
    · have i1 : (x : Int) < (N : Int) := by omega
      have NX := Lib.hid (fresh_succ x)
      go_wp2_with (at_builtin; refine Wd.push_int rfl _ _ rfl w.heap.size wr.heap.size c2 wr.heap.size x A2 _ x rfl (by exact O.out.below (al1 wr _) (Nat.le_refl _)) rfl (by exact Wd.alloc_first _ _ _ _ rfl) (by simp; omega) (by omega) ?_; intro A7 c7 w7 h5 h6; have O7 := Lib.hid h5; have D7 := Lib.hid ((D.out.trans ((al1 wr _).mono ds)).trans (h6.below (Nat.le_refl _) (by simp; omega))); clear h5 h6)
      go_roundw
      case rel => exact ⟨x + 1, A7, c7, by go_num, rfl, by omega, by rw [NX.out]; exact O7.out, D7.out⟩
      case measure => simp [intOf]; omega
    · obtain rfl : N = x := by omega
      have i1 : ¬ (N : Int) < (N : Int) := by omega
      go_wp2
      go_ret
      exact ⟨A2, N, c2, rfl, fresh_len N, O.out, D.out⟩
/-- The list while it is joined: the first j elements are new. -/
def mix (l l' : List Int) (j : Nat) : List Int := l'.take j ++ l.drop j
theorem mix_zero (l l' : List Int) : mix l l' 0 = l := by simp [mix]
theorem mix_all {l l' : List Int} (h : l.length = l'.length) : mix l l' l.length = l' := by rw [mix, List.drop_length, List.append_nil, List.take_of_length_le (by omega)]
theorem mix_getD {l l' : List Int} (h : l.length = l'.length) {j : Nat} (hj : j < l.length) : (mix l l' j).getD j 0 = l.getD j 0 := by
  unfold mix
  rw [List.getD_eq_getElem?_getD, List.getD_eq_getElem?_getD, List.getElem?_append_right (by simp; omega)]
  simp only [List.length_take]
  rw [show min j l'.length = j by omega, Nat.sub_self, List.getElem?_drop, Nat.add_zero]
theorem mix_set {l l' : List Int} (h : l.length = l'.length) {j : Nat} (hj : j < l.length) : (mix l l' j).set j (l'.getD j 0) = mix l l' (j + 1) := by
  unfold mix
  rw [List.set_append_right _ _ (by simp; omega), List.length_take, show min j l'.length = j by omega, Nat.sub_self, List.drop_eq_getElem_cons hj, List.set_cons_zero, List.take_add_one, List.append_assoc, List.getElem?_eq_getElem (by omega)]
  congr 1
  rw [List.getD_eq_getElem?_getD, List.getElem?_eq_getElem (by omega)]
  rfl
theorem mix_same {l l' : List Int} (h : l.length = l'.length) {j : Nat} (hj : j < l.length) (e : l'.getD j 0 = l.getD j 0) : mix l l' (j + 1) = mix l l' j := by
  rw [← mix_set h hj, e]
  have h2 := mix_getD h hj
  refine list_ext (by simp) fun i hi => ?_
  rw [List.getD_eq_getElem?_getD, List.getElem?_set]
  split
  · rename_i h3
    subst h3
    rw [if_pos (by simpa using hi)]
    exact h2.symm
  · rw [List.getD_eq_getElem?_getD]
theorem mix_len {l l' : List Int} (h : l.length = l'.length) {j : Nat} (hj : j ≤ l.length) : (mix l l' j).length = l.length := by simp [mix]; omega
set_option maxRecDepth 100000 in
set_option maxHeartbeats 8000000 in
theorem join_spec (A : Option Addr) (N c lo hi i k : Nat) (m : List Int) (w : World) (h : Own w lo hi A N c m) (hi1 : i < N) (hk1 : k < N) (hN : N ≤ 1000) :
    Calls Tryd.prog 156 #[.slice A N c, .int .i64 (i : Int), .int .i64 (k : Int)] w fun e w' => e = .returned (.tuple #[]) ∧ Own w' lo hi A N c (jn m i k) ∧ Kept lo hi w w' := by
  obtain ⟨g, a, rfl, hg1, hg2, ha, hca, -⟩ := h.at_ hi1
  obtain ⟨g', e, eg, -, -, he, hce, -⟩ := h.at_ hk1
  cases eg
  have J := Lib.hid (fun j (hj : j < N) => jn_at (m := m) (i := i) (k := k) (j := j) (by rw [h.len]; exact hj))
  rw [ha, he] at J
  have L := Lib.hid h.len
  have LJ := Lib.hid (show m.length = (jn m i k).length from (jn_len _ _ _).symm)
  have HO := Lib.hid h
  have i0 : (0 : Int) ≤ (i : Int) := by omega
  have i1 : (i : Int) < (N : Int) := by omega
  have k0 : (0 : Int) ≤ (k : Int) := by omega
  have k1 : (k : Int) < (N : Int) := by omega
  clear ha he h
  rcases (show a < e ∨ a = e ∨ e < a from by omega) with hae | hae | hae
  · obtain ⟨q1, q2⟩ : max a e = e ∧ min a e = a := by omega
    have q3 : a ≤ e := by omega
    have q4 : ¬ e ≤ a := by omega
    rw [q1, q2] at J
    clear q1 q2
    go_enter Tryd.func156, Tryd.ntmps156
    go_upto_region 0 with fail
    go_region
    go_upto_region 1 with fail
    go_region
    go_wp2
    obtain ⟨W0, hW0⟩ : ∃ W0, W0 = w.drew.drew := ⟨_, rfl⟩
    have O0 := Lib.hid (show Own W0 lo hi (some ⟨g, 0, none⟩) N c (mix m (jn m i k) 0) from by rw [mix_zero, hW0]; exact HO.out)
    have K0 := Lib.hid (show Kept lo hi w W0 from by rw [hW0]; exact (Kept.refl lo hi w).drewN 2)
    rw [← hW0]
    clear hW0 HO hca hce
    go_loopw [8] (fun x W => ∃ j : Nat, j ≤ N ∧ x = .int .i64 j ∧ Own W lo hi (some ⟨g, 0, none⟩) N c (mix m (jn m i k) j) ∧ Kept lo hi w W) (fun x _ => N - (intOf x).toNat)
    case atStart => exact ⟨0, Nat.zero_le _, rfl, O0.out, K0.out⟩
    case round =>
      obtain ⟨j, hj, rfl, ho, hkk⟩ := hrel
      have O := Lib.hid ho
      have D := Lib.hid hkk
      have j0 : (0 : Int) ≤ (j : Int) := by omega
      clear ho hkk O0 K0
      by_cases hlt : j < N
      case neg =>
        obtain rfl : N = j := by omega
        have i4 : ¬ (N : Int) < (N : Int) := by omega
        go_wp2
        refine bodyPost_end (results_none rfl _ _ _) rfl ?_
        exact ⟨rfl, by have h7 := O.out; rw [← L.out, mix_all LJ.out, L.out] at h7; exact h7, D.out⟩
      have j1 : (j : Int) < (N : Int) := by omega
      have SM := Lib.hid (mix_same LJ.out (j := j) (by rw [L.out]; exact hlt))
      have ST := Lib.hid (mix_set LJ.out (j := j) (by rw [L.out]; exact hlt))
      obtain ⟨g7, v, e7, _, _, hv, hcv, hfv⟩ := O.out.at_ (k := j) hlt
      cases e7
      rw [mix_getD LJ.out (by rw [L.out]; exact hlt)] at hv
      have JJ := Lib.hid (J.out j hlt)
      rw [hv] at JJ SM
      clear hv
      by_cases hve : v = e
      · have t1 : (v == e) = true := by rw [beq_iff_eq]; exact hve
        have NX := Lib.hid (show (mix m (jn m i k) j).set j a = mix m (jn m i k) (j + 1) from by rw [← ST.out, JJ.out, if_pos hve])
        clear hve
        go_wp2
        go_roundw
        case rel => exact ⟨j + 1, by omega, by go_num, by rw [← NX.out]; exact O.out.set_ j a, D.out.set_ (p := ⟨g, j, none⟩) hg1 hg2 _⟩
        case measure => simp [intOf]; omega
      · have t1 : (v == e) = false := by rw [beq_eq_false_iff_ne]; exact hve
        have NX := Lib.hid (SM.out (by rw [JJ.out, if_neg hve]))
        clear hve
        go_wp2
        go_roundw
        case rel => exact ⟨j + 1, by omega, by go_num, by rw [NX.out]; exact O.out, D.out⟩
        case measure => simp [intOf]; omega
  · subst hae
    obtain ⟨q1, q2⟩ : max a a = a ∧ min a a = a := by omega
    rw [q1, q2] at J
    clear q1 q2
    go_enter Tryd.func156, Tryd.ntmps156
    go_upto_region 0 with fail
    go_region
    go_upto_region 1 with fail
    go_region
    go_wp2
    obtain ⟨W0, hW0⟩ : ∃ W0, W0 = w.drew.drew := ⟨_, rfl⟩
    have O0 := Lib.hid (show Own W0 lo hi (some ⟨g, 0, none⟩) N c (mix m (jn m i k) 0) from by rw [mix_zero, hW0]; exact HO.out)
    have K0 := Lib.hid (show Kept lo hi w W0 from by rw [hW0]; exact (Kept.refl lo hi w).drewN 2)
    rw [← hW0]
    clear hW0 HO hca hce
    go_loopw [8] (fun x W => ∃ j : Nat, j ≤ N ∧ x = .int .i64 j ∧ Own W lo hi (some ⟨g, 0, none⟩) N c (mix m (jn m i k) j) ∧ Kept lo hi w W) (fun x _ => N - (intOf x).toNat)
    case atStart => exact ⟨0, Nat.zero_le _, rfl, O0.out, K0.out⟩
    case round =>
      obtain ⟨j, hj, rfl, ho, hkk⟩ := hrel
      have O := Lib.hid ho
      have D := Lib.hid hkk
      have j0 : (0 : Int) ≤ (j : Int) := by omega
      clear ho hkk O0 K0
      by_cases hlt : j < N
      case neg =>
        obtain rfl : N = j := by omega
        have i4 : ¬ (N : Int) < (N : Int) := by omega
        go_wp2
        refine bodyPost_end (results_none rfl _ _ _) rfl ?_
        exact ⟨rfl, by have h7 := O.out; rw [← L.out, mix_all LJ.out, L.out] at h7; exact h7, D.out⟩
      have j1 : (j : Int) < (N : Int) := by omega
      have SM := Lib.hid (mix_same LJ.out (j := j) (by rw [L.out]; exact hlt))
      have ST := Lib.hid (mix_set LJ.out (j := j) (by rw [L.out]; exact hlt))
      obtain ⟨g7, v, e7, _, _, hv, hcv, hfv⟩ := O.out.at_ (k := j) hlt
      cases e7
      rw [mix_getD LJ.out (by rw [L.out]; exact hlt)] at hv
      have JJ := Lib.hid (J.out j hlt)
      rw [hv] at JJ SM
      clear hv
      by_cases hve : v = a
      · have t1 : (v == a) = true := by rw [beq_iff_eq]; exact hve
        have NX := Lib.hid (show (mix m (jn m i k) j).set j a = mix m (jn m i k) (j + 1) from by rw [← ST.out, JJ.out, if_pos hve])
        clear hve
        go_wp2
        go_roundw
        case rel => exact ⟨j + 1, by omega, by go_num, by rw [← NX.out]; exact O.out.set_ j a, D.out.set_ (p := ⟨g, j, none⟩) hg1 hg2 _⟩
        case measure => simp [intOf]; omega
      · have t1 : (v == a) = false := by rw [beq_eq_false_iff_ne]; exact hve
        have NX := Lib.hid (SM.out (by rw [JJ.out, if_neg hve]))
        clear hve
        go_wp2
        go_roundw
        case rel => exact ⟨j + 1, by omega, by go_num, by rw [NX.out]; exact O.out, D.out⟩
        case measure => simp [intOf]; omega
  · obtain ⟨q1, q2⟩ : max a e = a ∧ min a e = e := by omega
    have q3 : e ≤ a := by omega
    have q4 : ¬ a ≤ e := by omega
    rw [q1, q2] at J
    clear q1 q2
    go_enter Tryd.func156, Tryd.ntmps156
    go_upto_region 0 with fail
    go_region
    go_upto_region 1 with fail
    go_region
    go_wp2
    obtain ⟨W0, hW0⟩ : ∃ W0, W0 = w.drew.drew := ⟨_, rfl⟩
    have O0 := Lib.hid (show Own W0 lo hi (some ⟨g, 0, none⟩) N c (mix m (jn m i k) 0) from by rw [mix_zero, hW0]; exact HO.out)
    have K0 := Lib.hid (show Kept lo hi w W0 from by rw [hW0]; exact (Kept.refl lo hi w).drewN 2)
    rw [← hW0]
    clear hW0 HO hca hce
    go_loopw [8] (fun x W => ∃ j : Nat, j ≤ N ∧ x = .int .i64 j ∧ Own W lo hi (some ⟨g, 0, none⟩) N c (mix m (jn m i k) j) ∧ Kept lo hi w W) (fun x _ => N - (intOf x).toNat)
    case atStart => exact ⟨0, Nat.zero_le _, rfl, O0.out, K0.out⟩
    case round =>
      obtain ⟨j, hj, rfl, ho, hkk⟩ := hrel
      have O := Lib.hid ho
      have D := Lib.hid hkk
      have j0 : (0 : Int) ≤ (j : Int) := by omega
      clear ho hkk O0 K0
      by_cases hlt : j < N
      case neg =>
        obtain rfl : N = j := by omega
        have i4 : ¬ (N : Int) < (N : Int) := by omega
        go_wp2
        refine bodyPost_end (results_none rfl _ _ _) rfl ?_
        exact ⟨rfl, by have h7 := O.out; rw [← L.out, mix_all LJ.out, L.out] at h7; exact h7, D.out⟩
      have j1 : (j : Int) < (N : Int) := by omega
      have SM := Lib.hid (mix_same LJ.out (j := j) (by rw [L.out]; exact hlt))
      have ST := Lib.hid (mix_set LJ.out (j := j) (by rw [L.out]; exact hlt))
      obtain ⟨g7, v, e7, _, _, hv, hcv, hfv⟩ := O.out.at_ (k := j) hlt
      cases e7
      rw [mix_getD LJ.out (by rw [L.out]; exact hlt)] at hv
      have JJ := Lib.hid (J.out j hlt)
      rw [hv] at JJ SM
      clear hv
      by_cases hve : v = a
      · have t1 : (v == a) = true := by rw [beq_iff_eq]; exact hve
        have NX := Lib.hid (show (mix m (jn m i k) j).set j e = mix m (jn m i k) (j + 1) from by rw [← ST.out, JJ.out, if_pos hve])
        clear hve
        go_wp2
        go_roundw
        case rel => exact ⟨j + 1, by omega, by go_num, by rw [← NX.out]; exact O.out.set_ j e, D.out.set_ (p := ⟨g, j, none⟩) hg1 hg2 _⟩
        case measure => simp [intOf]; omega
      · have t1 : (v == a) = false := by rw [beq_eq_false_iff_ne]; exact hve
        have NX := Lib.hid (SM.out (by rw [JJ.out, if_neg hve]))
        clear hve
        go_wp2
        go_roundw
        case rel => exact ⟨j + 1, by omega, by go_num, by rw [NX.out]; exact O.out, D.out⟩
        case measure => simp [intOf]; omega
end Sk
end Go.Proofs.YtjendlfophdfeaaDoor

namespace Go.Proofs.YtjendlfophdfeaaDoor
open Go.RowKit
namespace Sk
/-- Marks: each is the smallest of its class. -/
structure Mk (m : List Int) : Prop where
  lo : ∀ i, i < m.length → ∃ r : Nat, m.getD i 0 = (r : Int) ∧ r ≤ i ∧ m.getD r 0 = (r : Int)
/-- The numbers of classes, at their first elements, as far as they are found. -/
def nmb (m : List Int) (N k : Nat) : List Int := (List.range N).map fun i => if i < k ∧ m.getD i 0 = (i : Int) then (rk m i : Int) else 0
theorem nmb_len (m : List Int) (N k : Nat) : (nmb m N k).length = N := by simp [nmb]
theorem nmb_at {m : List Int} {N k i : Nat} (h : i < N) : (nmb m N k).getD i 0 = if i < k ∧ m.getD i 0 = (i : Int) then (rk m i : Int) else 0 := by
  simp [nmb, h]
theorem nmb_zero (m : List Int) (N : Nat) : nmb m N 0 = List.replicate N 0 := by
  refine list_ext (by simp [nmb]) fun j hj => ?_
  rw [nmb_len] at hj
  rw [nmb_at hj, if_neg (by omega)]
  simp [hj]
theorem getD_set {d : List Int} {i j : Nat} {u : Int} (hj : j < d.length) : (d.set i u).getD j 0 = if i = j then u else d.getD j 0 := by
  rw [List.getD_eq_getElem?_getD, List.getD_eq_getElem?_getD, List.getElem?_set]
  by_cases e : i = j
  · subst e
    simp [hj]
  · simp [e]
theorem nmb_yes {m : List Int} {N k : Nat} (h : m.getD k 0 = (k : Int)) : (nmb m N k).set k (rk m k : Int) = nmb m N (k + 1) := by
  refine list_ext (by simp [nmb]) fun j hj => ?_
  rw [List.length_set, nmb_len] at hj
  rw [getD_set (by rw [nmb_len]; exact hj), nmb_at hj, nmb_at hj]
  by_cases e : k = j
  · subst e; rw [if_pos rfl, if_pos ⟨by omega, h⟩]
  · rw [if_neg e]
    by_cases e2 : j < k ∧ m.getD j 0 = (j : Int)
    · rw [if_pos e2, if_pos ⟨by omega, e2.2⟩]
    · rw [if_neg e2, if_neg (fun e3 => e2 ⟨by omega, e3.2⟩)]
theorem nmb_no {m : List Int} {N k : Nat} (h : m.getD k 0 ≠ (k : Int)) : nmb m N (k + 1) = nmb m N k := by
  refine list_ext (by simp [nmb]) fun j hj => ?_
  rw [nmb_len] at hj
  rw [nmb_at hj, nmb_at hj]
  by_cases e2 : j < k ∧ m.getD j 0 = (j : Int)
  · rw [if_pos e2, if_pos ⟨by omega, e2.2⟩]
  · rw [if_neg e2, if_neg (fun e3 => e2 ⟨Nat.lt_of_le_of_ne (Nat.le_of_lt_succ e3.1) (fun e => h (e ▸ e3.2)), e3.2⟩)]
theorem nmb_cls {m : List Int} (h : Mk m) {i : Nat} (hi : i < m.length) : (nmb m m.length m.length).getD (m.getD i 0).toNat 0 = (cls m i : Int) := by
  obtain ⟨r, e, hr, e2⟩ := h.lo i hi
  unfold cls
  rw [e, Int.toNat_natCast, nmb_at (by omega), if_pos ⟨by omega, e2⟩]
/-- What l08Rows hands back. -/
def ResRw2 (w : World) (T : List (List Int)) (c : Int) (e : Ending) (w' : World) : Prop := ∃ A n cc rs, e = .returned (.tuple #[.slice A n cc, .int .i64 c]) ∧ rs.length = n ∧ OwnS w' w.heap.size w'.heap.size A cc rs ∧ vals rs = T ∧ Below w.heap.size w w'
set_option maxRecDepth 100000 in
set_option maxHeartbeats 8000000 in
theorem rows_spec (A : Option Addr) (N c wd t : Nat) (m : List Int) (w : World) (h : Ints w w.heap.size A N m) (hm : Mk m) (hN : wd * t = N) (ht : t ≤ 8) (hw : wd ≤ 6) (hw0 : 0 < wd) :
    Calls Tryd.prog 158 #[.slice A N c, .int .i64 (wd : Int)] w (ResRw2 w (tblS m wd t) (rk m N)) := by
  have n48 : N ≤ 48 := by rw [← hN]; exact Nat.mul_le_mul hw ht
  have L := Lib.hid h.1
  have HM := Lib.hid hm
  have HI := Lib.hid h
  have MK := run_make_ints N (by omega) w
  obtain ⟨U, hU⟩ : ∃ U, U = w.alloc (.cells (Array.replicate N (Value.int .i64 0)) 2) := ⟨_, rfl⟩
  have BU := Lib.hid (show Below w.heap.size w U from by rw [hU]; exact al1 _ _)
  have NU := Lib.hid (show Own U w.heap.size (w.heap.size + 1) (some ⟨w.heap.size, 0, none⟩) N N (nmb m N 0) from by
    rw [hU, nmb_zero]; exact Own.of_blk (Blk.zeros w N) (Nat.le_refl _) (Nat.lt_succ_self _) (by simp) (by unfold maxLen; omega))
  obtain ⟨V, hV⟩ : ∃ V, V = U.alloc (Obj.cells #[] 48) := ⟨_, rfl⟩
  obtain ⟨zU, zUb⟩ : U.heap.size ≤ w.heap.size + 1 ∧ w.heap.size + 1 ≤ U.heap.size := by rw [hU]; simp
  have BV := Lib.hid (show Below U.heap.size U V from by rw [hV]; exact al1 _ _)
  have E5 := Lib.hid (show OwnS V U.heap.size V.heap.size (some ⟨U.heap.size, 0, none⟩) 0 [] from by rw [hV]; exact (OwnS.empty U).wide (Nat.le_refl _) (by simp))
  clear h hm
  go_enter Tryd.func158, Tryd.ntmps158
  go_upto_region 2 with fail
  rw [← hU]
  clear hU
  go_upto_region 4 with fail
  rw [← hV]
  have NV := Lib.hid (NU.out.below BV.out (by omega))
  obtain ⟨zV, zVb⟩ : V.heap.size ≤ w.heap.size + 2 ∧ w.heap.size + 2 ≤ V.heap.size := by rw [hV]; simp; omega
  have DV := Lib.hid (BU.out.trans (BV.out.mono (by omega)))
  clear hV NU BU BV MK
  go_wp2
  go_loopw [9, 7] (fun i v W => ∃ x : Nat, i = .int .i64 x ∧ v = .int .i64 (rk m x : Int) ∧ x ≤ N ∧ Own W w.heap.size (w.heap.size + 1) (some ⟨w.heap.size, 0, none⟩) N N (nmb m N x) ∧ Kept w.heap.size (w.heap.size + 1) V W) (fun i _ _ => N - (intOf i).toNat)
  case atStart => exact ⟨0, rfl, rfl, Nat.zero_le _, NV.out, Kept.refl _ _ _⟩
  case round =>
    obtain ⟨W, rfl⟩ : ∃ W : World, W = wr := ⟨_, rfl⟩
    obtain ⟨x, rfl, rfl, hx, ho, hk⟩ := hrel
    have O := Lib.hid ho
    have K := Lib.hid hk
    have DW := Lib.hid (DV.out.trans (hk.below (B := w.heap.size) (Nat.le_refl _) (by omega)))
    have zW : V.heap.size ≤ W.heap.size := hk.size
    have j0 : (0 : Int) ≤ (x : Int) := by omega
    have rb := rk_le m x
    clear ho hk NV
    by_cases hlt : x < N
    · have j1 : (x : Int) < (N : Int) := by omega
      obtain ⟨b, off, z, rfl, hb, hz, hcz⟩ := (HI.out.below DW.out).at_z hlt
      obtain ⟨g7, v7, e7, _, _, hv7, hcv7, hfv7⟩ := O.out.at_ (k := x) hlt
      cases e7
      have RS := Lib.hid (show rk m (x + 1) = rk m x + if m.getD x 0 = (x : Int) then 1 else 0 from rfl)
      obtain ⟨R, hR⟩ : ∃ R, rk m x = R := ⟨_, rfl⟩
      have YES := Lib.hid (fun h => nmb_yes (m := m) (N := N) (k := x) h)
      have NO := Lib.hid (fun h => nmb_no (m := m) (N := N) (k := x) h)
      rw [hR] at RS YES rb
      rw [hR]
      clear hv7 hR
      by_cases hzx : z = (x : Int)
      · have t0 : (z == (x : Int)) = true := by rw [beq_iff_eq]; exact hzx
        have Y := Lib.hid (YES.out (by rw [hz]; exact hzx))
        have RY := Lib.hid (show rk m (x + 1) = R + 1 from by rw [RS.out, if_pos (by rw [hz]; exact hzx)])
        have ne : ¬ w.heap.size = b := by omega
        clear hz hzx YES NO RS
        go_wp2
        go_roundw
        case rel => exact ⟨x + 1, by go_num, by rw [RY.out]; go_num, by omega, by rw [← Y.out]; exact O.out.set_ x R, K.out.set_ (p := ⟨w.heap.size, x, none⟩) (Nat.le_refl _) (Nat.lt_succ_self _) _⟩
        case measure => simp [intOf]; omega
      · have t0 : (z == (x : Int)) = false := by rw [beq_eq_false_iff_ne]; exact hzx
        have Y := Lib.hid (NO.out (by rw [hz]; exact hzx))
        have RY := Lib.hid (show rk m (x + 1) = R from by rw [RS.out, if_neg (by rw [hz]; exact hzx)]; rfl)
        clear hz hzx YES NO RS
        go_wp2
        go_roundw
        case rel => exact ⟨x + 1, by go_num, by rw [RY.out], by omega, by rw [Y.out]; exact O.out, K.out⟩
        case measure => simp [intOf]; omega
    · obtain rfl : N = x := by omega
      have j1 : ¬ (N : Int) < (N : Int) := by omega
      have E6 := Lib.hid ((E5.out.wide (lo' := w.heap.size + 1) (by omega) (Nat.le_refl _)).kept K.out (Nat.le_refl _) (.inr (Nat.le_refl _)))
      obtain ⟨R, hR⟩ : ∃ R, rk m N = R := ⟨_, rfl⟩
      have RR := Lib.hid hR
      rw [hR]
      clear hR E5 rb
      go_wp2
      go_loopw [10, 8] (fun i v X => ∃ (a n3 c3 : Nat) (A3 : Option Addr) (qs : List Rw), i = .int .i64 ((a * wd : Nat) : Int) ∧ v = .slice A3 n3 c3 ∧ qs.length = n3 ∧ a ≤ t ∧ vals qs = tblS m wd a ∧ OwnS X (w.heap.size + 1) X.heap.size A3 c3 qs ∧ Own X w.heap.size (w.heap.size + 1) (some ⟨w.heap.size, 0, none⟩) N N (nmb m N N) ∧ Below w.heap.size w X ∧ w.heap.size + 2 ≤ X.heap.size) (fun i _ _ => N - (intOf i).toNat)
      case atStart => exact ⟨0, 0, 0, _, [], by simp, rfl, rfl, Nat.zero_le _, rfl, E6.out.wide (Nat.le_refl _) zW, O.out, DW.out, by omega⟩
      case round =>
        obtain ⟨X, rfl⟩ : ∃ X : World, X = wr := ⟨_, rfl⟩
        obtain ⟨a, n3, c3, A3, qs, rfl, rfl, hq, hat, hv, ho3, ho4, hb3, hz3⟩ := hrel
        have QM := Lib.hid hq
        have V3 := Lib.hid hv
        have S3 := Lib.hid ho3
        have O3 := Lib.hid ho4
        have D3 := Lib.hid hb3
        have n3a : n3 ≤ t := by rw [← hq, ← vals_len, hv, tblS_len]; exact hat
        have TS := Lib.hid (tblS_succ m wd a)
        have HA := Lib.hid (show a < t → a * wd + wd ≤ N from fun h => by
          have := Nat.mul_le_mul_left wd (show a + 1 ≤ t from h); rw [hN, Nat.mul_succ, Nat.mul_comm] at this; exact this)
        have HAn := Lib.hid (show ¬ a < t → a * wd = N from fun h => by
          obtain rfl : a = t := by omega
          rw [Nat.mul_comm]; exact hN)
        have HS := Lib.hid (show (a + 1) * wd = a * wd + wd from Nat.succ_mul _ _)
        have RS := Lib.hid (fun y => rowS_succ m wd a y)
        have CL := Lib.hid (fun y (hy : a * wd + y < N) => nmb_cls HM.out (i := a * wd + y) (by rw [L.out]; exact hy))
        obtain ⟨x, hx⟩ : ∃ x, a * wd = x := ⟨_, rfl⟩
        rw [hx] at HA HAn HS RS CL
        rw [hx]
        clear hq hv ho3 ho4 hb3 E6 O DW hx
        by_cases hlt : a < t
        · have hxw := HA.out hlt
          have x0 : (0 : Int) ≤ (x : Int) := by omega
          have j3 : (x : Int) < (N : Int) := by omega
          obtain ⟨W6, hW6⟩ : ∃ W6, W6 = X.alloc (Obj.cells #[] 2) := ⟨_, rfl⟩
          have E7 := Lib.hid (show Own W6 X.heap.size W6.heap.size (some ⟨X.heap.size, 0, none⟩) 0 0 (rowS m wd a 0) from by rw [hW6]; exact (Wd.own_nil X).wide (Nat.le_refl _) (by simp))
          have O6 := Lib.hid (show Own W6 w.heap.size (w.heap.size + 1) (some ⟨w.heap.size, 0, none⟩) N N (nmb m N N) from by rw [hW6]; exact O3.out.below (al1 X _) (by omega))
          have S6 := Lib.hid (show OwnS W6 (w.heap.size + 1) X.heap.size A3 c3 qs from by rw [hW6]; exact S3.out.below (al1 X _) (Nat.le_refl _))
          have D6 := Lib.hid (show Below w.heap.size w W6 from by rw [hW6]; exact D3.out.trans ((al1 X _).mono (by omega)))
          have y6 : X.heap.size ≤ W6.heap.size := by rw [hW6]; simp
          go_upto_region 14 with fail
          rw [← hW6]
          clear hW6 O3 S3 D3
          go_wp2
          go_loopw [12, 11] (fun i v Y => ∃ (y c4 : Nat) (A4 : Option Addr), i = .int .i64 ((x + y : Nat) : Int) ∧ v = .slice A4 y c4 ∧ y ≤ wd ∧ Own Y X.heap.size Y.heap.size A4 y c4 (rowS m wd a y) ∧ OwnS Y (w.heap.size + 1) X.heap.size A3 c3 qs ∧ Own Y w.heap.size (w.heap.size + 1) (some ⟨w.heap.size, 0, none⟩) N N (nmb m N N) ∧ Below w.heap.size w Y ∧ X.heap.size ≤ Y.heap.size) (fun i _ _ => x + wd - (intOf i).toNat)
          case atStart => exact ⟨0, 0, _, by simp, rfl, Nat.zero_le _, E7.out, S6.out, O6.out, D6.out, y6⟩
          case round =>
            obtain ⟨Y, rfl⟩ : ∃ Y : World, Y = wr := ⟨_, rfl⟩
            obtain ⟨y, c4, A4, rfl, rfl, hy, hl4, hs4, ho4, hb4, hy4⟩ := hrel
            have R4 := Lib.hid hl4
            have S := Lib.hid hs4
            have O := Lib.hid ho4
            have D := Lib.hid hb4
            clear hl4 hs4 ho4 hb4 E7 S6 O6 D6
            have s0 : IntKind.i64.wrap ((x : Int) + (wd : Int)) = (x : Int) + (wd : Int) := IntWalk.i64_in _ (by omega)
            by_cases hlt2 : y < wd
            · have k0 : (0 : Int) ≤ ((x + y : Nat) : Int) := by omega
              have k1 : ((x + y : Nat) : Int) < (N : Int) := by omega
              have k2 : ((x + y : Nat) : Int) < (x : Int) + (wd : Int) := by omega
              have CV := Lib.hid (CL.out y (by omega))
              have MV := Lib.hid (HM.out.lo (x + y) (by rw [L.out]; omega))
              have RY := Lib.hid (RS.out y)
              obtain ⟨j, hj⟩ : ∃ j, x + y = j := ⟨_, rfl⟩
              have HJ := Lib.hid hj
              rw [hj] at k0 k1 k2 CV MV RY
              rw [hj]
              have hjN : j < N := by omega
              obtain ⟨r, hr, hrj, -⟩ := MV.out
              obtain ⟨b, off, zz, rfl, hb, hzz, hcz⟩ := (HI.out.below D.out).at_z hjN
              have hzr : zz = (r : Int) := by rw [← hzz]; exact hr
              subst hzr
              obtain ⟨g7, v7, e7, _, _, hv7, hcv7, _⟩ := O.out.at_ (k := r) (by omega)
              cases e7
              have CE := Lib.hid (show v7 = (cls m j : Int) from by
                have h9 := CV.out
                rw [L.out] at h9
                rw [← hv7, ← h9, hr, Int.toNat_natCast])
              have r0 : (0 : Int) ≤ (r : Int) := by omega
              have r1 : (r : Int) < (N : Int) := by omega
              clear hr hzz hv7 MV CV hj
              go_upto_region 17 with fail
              go_wp2_with (at_builtin; refine Wd.push_int rfl _ _ rfl X.heap.size Y.heap.size c4 Y.heap.size y A4 _ v7 rfl (by exact R4.out.below (al1 Y _) (Nat.le_refl _)) rfl (by exact Wd.alloc_first _ _ _ _ rfl) (by simp; omega) (by omega) ?_; intro A7 c7 w7 h5 h6; have O7 := Lib.hid h5; have K7 := Lib.hid h6; have s7 := h6.size; simp only [World.size_alloc] at s7; clear h5 h6)
              go_roundw
              case rel => exact ⟨y + 1, c7, A7, by rw [← HJ.out]; go_num, rfl, by omega, by rw [RY.out, ← CE.out]; exact O7.out, (S.out.below (al1 Y _) (by omega)).kept K7.out (by simp; omega) (.inl (Nat.le_refl _)), (O.out.below (al1 Y _) (by omega)).kept K7.out (by simp; omega) (.inl (by omega)), (D.out.trans ((al1 Y _).mono (by omega))).trans (K7.out.below (by omega) (by simp; omega)), by omega⟩
              case measure => simp [intOf]; omega
            · obtain rfl : wd = y := by omega
              have k2 : ¬ ((x + wd : Nat) : Int) < (x : Int) + (wd : Int) := by omega
              have RI := Lib.hid (show Rw.In ⟨A4, c4, rowS m wd a wd⟩ Y X.heap.size Y.heap.size from ⟨by dsimp only; rw [rowS_len]; exact (Wd.own_caps R4.out).1, (Wd.own_caps R4.out).2, by dsimp only; rw [rowS_len]; exact R4.out.mine⟩)
              have SV := Lib.hid (show Rw.sv ⟨A4, c4, rowS m wd a wd⟩ = .slice A4 wd c4 from by show Value.slice _ (rowS m wd a wd).length _ = _; rw [rowS_len])
              go_upto_region 18 with fail
              go_wp2_with (at_builtin; refine push_row rfl _ _ rfl (w.heap.size + 1) X.heap.size X.heap.size c3 n3 Y.heap.size A3 qs ⟨A4, c4, rowS m wd a wd⟩ rfl QM.out (by exact S.out.below (al1 Y _) (by omega)) rfl (by rw [SV.out]; exact Wd.alloc_first _ _ _ _ rfl) (by exact (RI.out.below (al1 Y _) (Nat.le_refl _)).wide (Nat.le_refl _) (by simp)) (Nat.le_refl _) (by omega) (by simp; omega) (by simp; omega) (by omega) ?_; intro A7 c7 w7 h5 h6; have O7 := Lib.hid h5; have K7 := Lib.hid h6; have s7 := h6.size; simp only [World.size_alloc] at s7; clear h5 h6)
              go_roundw
              case rel => exact ⟨a + 1, n3 + 1, c7, A7, qs ++ [⟨A4, c4, rowS m wd a wd⟩], by rw [HS.out]; go_num, rfl, by rw [List.length_append, QM.out]; rfl, by omega, by rw [TS.out, ← V3.out]; simp [vals], O7.out, (O.out.below (al1 Y _) (by omega)).kept K7.out (by simp; omega) (.inl (by omega)), (D.out.trans ((al1 Y _).mono (by omega))).trans (K7.out.below (by omega) (by simp; omega)), by omega⟩
              case measure => simp [intOf]; omega
        · have hxe := HAn.out hlt
          obtain rfl : t = a := by omega
          subst hxe
          have j3 : ¬ (x : Int) < (x : Int) := by omega
          go_wp2
          refine bodyPost_ret (v := .tuple #[.slice A3 n3 c3, .int .i64 (R : Int)]) (by simp [results, Tryd.results158, go_sem]) rfl ?_
          rw [← RR.out]
          exact ⟨A3, n3, c3, qs, rfl, QM.out, S3.out.wide (by omega) (Nat.le_refl _), V3.out, D3.out⟩
end Sk
end Go.Proofs.YtjendlfophdfeaaDoor

namespace Go.Proofs.YtjendlfophdfeaaDoor
open Go.RowKit
namespace Sk
def TreeE (N : Nat) (F : FS) : Prop := ∃ par sg, Tree N F.m F.ss par sg
theorem TreeE.mark {N : Nat} {F : FS} (h : TreeE N F) (i : Nat) : TreeE N (F.mark i) := h
theorem TreeE.join {N i k : Nat} {s : Int} {F : FS} (h : TreeE N F) (hi : i < N) (hk : k < N) (hs : s = 1 ∨ s = -1) : TreeE N (F.join i k s) := by
  obtain ⟨par, sg, h⟩ := h
  unfold FS.join
  by_cases e : F.m.getD i 0 = F.m.getD k 0
  · rw [if_pos e]; exact ⟨par, sg, h⟩
  · rw [if_neg e]
    obtain ⟨r1, e1, -, -, -⟩ := h.root i hi
    obtain ⟨r2, e2, -, -, -⟩ := h.root k hk
    exact ⟨_, _, h.join hi hk e hs (lo := min r1 r2) (hi' := max r1 r2) (by omega) (by omega)⟩
theorem TreeE.vM {N : Nat} {F : FS} (h : TreeE N F) (a f k : Nat) : TreeE N (vM F a f k) := by
  induction k with
  | zero => exact h
  | succ k ih => simp only [Sk.vM]; split
                 · exact ih
                 · exact ih.mark _
theorem TreeE.eM {N : Nat} {F : FS} (h : TreeE N F) (a f k : Nat) : TreeE N (eM F a f k) := by
  induction k with
  | zero => exact h
  | succ k ih => simp only [Sk.eM]; split
                 · exact ih.mark _
                 · exact ih
theorem TreeE.vI {n a tb p : Nat} {F : FS} (h : TreeE (4 * n) F) (f : Nat) (ha : a < n) (hb : tb < n) (hp : p < 24) : ∀ k, k ≤ 4 → TreeE (4 * n) (vI F a f tb p k) := by
  intro k
  induction k with
  | zero => intro _; exact h
  | succ k ih =>
    intro hk
    have := (gm_all p hp k (by omega)).2
    simp only [Sk.vI]; split
    · exact ih (by omega)
    · exact (ih (by omega)).join (by omega) (by omega) (.inl rfl)
theorem TreeE.eI {n a tb p : Nat} {F : FS} (h : TreeE (6 * n) F) (f : Nat) (ha : a < n) (hb : tb < n) (hp : p < 24) : ∀ k, k ≤ 6 → TreeE (6 * n) (eI F a f tb p k) := by
  intro k
  induction k with
  | zero => intro _; exact h
  | succ k ih =>
    intro hk
    have := (eB_all p hp k (by omega)).2
    simp only [Sk.eI]; split
    · exact (ih (by omega)).join (by omega) (by omega) (eS_or p k)
    · exact ih (by omega)
def Good3 (n : Nat) (S : S3) : Prop := TreeE (4 * n) S.v ∧ TreeE (6 * n) S.e ∧ TreeE (4 * n) S.f
theorem glued_of {T : List (List Int)} (hT : Tr.Is T) {a f : Nat} (ha : a < T.length) (hf : f < 4) (hneg : ¬ Tr.tt T a f < 0) : ∃ tb p : Nat, Tr.tt T a f = (tb : Int) ∧ Tr.pp T a f = (p : Int) ∧ tb < T.length ∧ p < 24 := by
  have hnb : ¬ Tr.Bd T a f := fun e => by have := (hT.bd_iff ha hf).1 e; omega
  obtain ⟨tb, p, ht, hp, htn, hp24, -, -, -, -, -⟩ := hT.glued ha hf hnb
  exact ⟨tb, p, ht, hp, htn, hp24⟩
theorem step_good {T : List (List Int)} {S : S3} (hT : Tr.Is T) {a f : Nat} (ha : a < T.length) (hf : f < 4) (h : Good3 T.length S) : Good3 T.length (step T S a f) := by
  unfold step
  by_cases e : Tr.tt T a f < 0
  · rw [if_pos e]; exact ⟨h.1.vM _ _ _, h.2.1.eM _ _ _, h.2.2.mark _⟩
  · rw [if_neg e]
    obtain ⟨tb, p, ht, hp, htn, hp24⟩ := glued_of hT ha hf e
    rw [ht, hp, Int.toNat_natCast, Int.toNat_natCast]
    have := (gm_all p hp24 f hf).2
    exact ⟨h.1.vI f ha htn hp24 4 (by omega), h.2.1.eI f ha htn hp24 6 (by omega), h.2.2.join (by omega) (by omega) (.inl rfl)⟩
theorem start_tree (N : Nat) : TreeE N (FS.start N) := ⟨fun i => i, fun _ => 0, Tree.start N _⟩
theorem upto_good {T : List (List Int)} (hT : Tr.Is T) : ∀ k, k ≤ T.length * 4 → Good3 T.length (upto T (S3.start T.length) k) := by
  intro k
  induction k with
  | zero => intro _; exact ⟨start_tree _, start_tree _, start_tree _⟩
  | succ k ih => intro hk; exact step_good hT (by omega) (by omega) (ih (by omega))
theorem TreeE.mk {N : Nat} {F : FS} (h : TreeE N F) : Mk F.m := by
  obtain ⟨par, sg, h⟩ := h
  refine ⟨fun i hi => ?_⟩
  rw [h.len] at hi
  obtain ⟨r, e, l, -, s⟩ := h.root i hi
  exact ⟨r, e, l, s⟩
theorem TreeE.len {N : Nat} {F : FS} (h : TreeE N F) : F.m.length = N := by obtain ⟨par, sg, h⟩ := h; exact h.len
/-- The state at the end. -/
def FT (T : List (List Int)) : S3 := upto T (S3.start T.length) (T.length * 4)
theorem FT_ms (T : List (List Int)) : (FT T).ms = MT T := by unfold FT MT; rw [upto_ms, start_ms]
theorem MT_mk {T : List (List Int)} (hT : Tr.Is T) : Mk (MT T).v ∧ Mk (MT T).e ∧ Mk (MT T).f := by
  have h := upto_good hT _ (Nat.le_refl _)
  rw [← FT_ms]
  exact ⟨h.1.mk, h.2.1.mk, h.2.2.mk⟩
theorem MT_len (T : List (List Int)) : (MT T).v.length = 4 * T.length ∧ (MT T).e.length = 6 * T.length ∧ (MT T).f.length = 4 * T.length := by
  have h := mupto_len T (M3.start T.length) (T.length * 4)
  unfold MT
  rw [h.1, h.2.1, h.2.2]
  exact ⟨fresh_len _, fresh_len _, fresh_len _⟩
/-- The skeleton's tables and the numbers of classes. -/
def tabV (T : List (List Int)) : List (List Int) := tblS (MT T).v 4 T.length
def tabE (T : List (List Int)) : List (List Int) := tblS (MT T).e 6 T.length
def tabF (T : List (List Int)) : List (List Int) := tblS (MT T).f 4 T.length
def cntV (T : List (List Int)) : Nat := rk (MT T).v (4 * T.length)
def cntE (T : List (List Int)) : Nat := rk (MT T).e (6 * T.length)
def cntF (T : List (List Int)) : Nat := rk (MT T).f (4 * T.length)
theorem m_at {T : List (List Int)} {a f : Nat} (hf : f < 4) (S : M3) : mupto T S (a * 4 + (f + 1)) = mstep T (mupto T S (a * 4 + f)) a f := by
  show mstep T (mupto T S (a * 4 + f)) ((a * 4 + f) / 4) ((a * 4 + f) % 4) = _
  rw [show (a * 4 + f) / 4 = a by omega, show (a * 4 + f) % 4 = f by omega]
theorem m_neg {T : List (List Int)} {a f : Nat} {S : M3} (h : Tr.tt T a f < 0) : mstep T S a f = S := by unfold mstep; rw [if_pos h]
theorem m_pos {T : List (List Int)} {a f tb p : Nat} {S : M3} (ht : Tr.tt T a f = (tb : Int)) (hp : Tr.pp T a f = (p : Int)) : mstep T S a f = ⟨vJ S.v a f tb p 4, eJ S.e a f tb p 6, jn S.f (4 * a + f) (4 * tb + gm p f)⟩ := by
  unfold mstep; rw [if_neg (by omega), ht, hp, Int.toNat_natCast, Int.toNat_natCast]
end Sk
end Go.Proofs.YtjendlfophdfeaaDoor

namespace Go.Proofs.YtjendlfophdfeaaDoor
open Go.RowKit Go.Shelf

theorem OwnS.grownC {w w' : World} {lo hi c : Nat} {A : Option Addr} {rs : List Rw} {row : Option Nat} (h : OwnS w lo hi A c rs) (hg : w.grownBy w' row) (hr : ∀ k, row = some k → ∃ o : Obj, w.heap[k]? = some o ∧ o.isCells = false) : OwnS w' lo hi A c rs := by
  refine ⟨⟨h.row.1, ?_⟩, h.top, fun r hr' => ?_, h.off, h.apart⟩
  · rcases h.row.2 with h0 | ⟨g, cap, cur, hv, hb, hgg, q⟩
    · exact .inl h0
    · refine .inr ⟨g, cap, cur, hv, hb, ?_, q⟩
      rw [hg.block g (Array.getElem?_eq_some_iff.1 hgg).1 (fun e => by
        obtain ⟨o, ho, hc⟩ := hr g e.symm
        rw [hgg] at ho
        cases ho
        cases hc)]
      exact hgg
  · have hm := h.mine r hr'
    exact ⟨hm.le, hm.cap, hm.mine.1, fun h0 => by
      obtain ⟨g, off, e, h1, h2, h3⟩ := hm.mine.2 h0
      exact ⟨g, off, e, h1, h2, fun j hj => ⟨cell_kept (h3 j hj).1 hg hr, (frozen_kept (h3 j hj).1 hg hr).trans (h3 j hj).2⟩⟩⟩

/-- A row is appended to a slice of slices of the call's own, inside a fence. -/
theorem push_rowI {F : Fence} {m : Nat} {w : World} {ops : Array Oper} {rest : List Oper} {o : Oper} {a : Act} {Q : Exit → Act → World → Prop} (hgd : o.guard = none) (s x : Operand) (ho : o.op = .call { callee := .builtin .append, args := #[s, x], argTypes := #[56, 56] })
    (lo hi lo2 c n g : Nat) (A : Option Addr) (rs : List Rw) (r : Rw) (hs : a.eval s = .slice A n c) (hn : rs.length = n) (hown : OwnS w lo hi A c rs) (hx : a.eval x = .slice (some ⟨g, 0, none⟩) 1 1) (hc : w.cell? ⟨g, 0, none⟩ = some r.sv) (hr : r.In w lo2 w.heap.size) (h12 : hi ≤ lo2) (hlo2 : lo ≤ lo2) (hlo : lo ≤ w.heap.size) (hhi : hi ≤ w.heap.size) (hlen : n ≤ 1048576)
    (h : ∀ A' c' w', OwnS w' lo w'.heap.size A' c' (rs ++ [r]) → w.grownBy w' (Value.slice A n c).ownBlock → (∀ k, (Value.slice A n c).ownBlock = some k → lo ≤ k ∧ k < hi ∧ ∃ o : Obj, w.heap[k]? = some o ∧ o.isCells = true) → wpListIn F m Tryd.prog ops Q rest (a.put o.dst (.slice A' (n + 1) c')) w') : wpListIn F m Tryd.prog ops Q (o :: rest) a w := by
  obtain ⟨ti, hi0, hz0, hz1, hz2⟩ := info_parts infoS
  subst hn
  refine wpListIn_plain hgd fun K hK' => ?_
  obtain ⟨g', cap, w', hrun, h1, hg, hat, hlt⟩ := run_append_lies (P := Tryd.prog) w 56 o.type lo 48 ti _ 1 24 Tryd.underlying56 hi0 hz0 hz1 hz2 rfl (by decide) (.slice A rs.length c) rs.length (rs.map Rw.sv) hown.row ⟨g, 0, none⟩ 1 1 [r.sv] rfl
    (by intro j u hj; cases j with | zero => (simp at hj; subst hj; simpa [Addr.add] using hc) | succ j => simp at hj) (by intro u hu; simp at hu; subst hu; rfl) (by omega) (by unfold maxLen; omega) (by omega) hlo _ rfl
  unfold Oper.wpIn
  refine ⟨?_, ?_⟩
  · simp [Oper.about, ho, resolve, Target.leads, Sem.run_pure]
  rw [Oper.semAt_plain F _ _ (by rw [ho]; intro c hc'; cases hc')]
  simp [execOp, ho, resolve, invoke, builtin, hs, hx, hrun, Result.andThen]
  have hob : ∀ k, (Value.slice A rs.length c).ownBlock = some k → lo ≤ k ∧ k < hi ∧ ∀ q ∈ rs, q.Off k := fun k hk => by
    cases A with
    | none => simp [Value.ownBlock] at hk
    | some p =>
      have h2 := hown.top p rfl
      have h3 := fun q hq => hown.off q hq p rfl
      have h4 := (World.ownsRow.lt hown.row k hk).1
      simp [Value.ownBlock] at hk
      subst hk
      exact ⟨h4, h2, h3⟩
  have hcl : ∀ k, (Value.slice A rs.length c).ownBlock = some k → ∃ o : Obj, w.heap[k]? = some o ∧ o.isCells = true := fun k hk => by
    rcases hown.row.2 with ⟨h0, _⟩ | ⟨g2, cap2, cur2, hv, hb2, hg2, _⟩
    · rw [h0] at hk; simp [Value.ownBlock] at hk
    · rw [hv] at hk
      simp [Value.ownBlock] at hk
      subst hk
      exact ⟨_, hg2, rfl⟩
  have hrw : r.In w' lo w'.heap.size := (hr.grown hg fun k hk => hr.off (.inl (by have := (hob k hk).2.1; omega))).wide hlo2 hg.size
  refine hK' _ _ (h (some ⟨g', 0, none⟩) cap w' ⟨?_, (fun a ha => by cases ha; exact hlt), fun q hq => ?_, fun q hq a ha => ?_, ?_⟩ hg fun k hk => ⟨(hob k hk).1, (hob k hk).2.1, hcl k hk⟩)
  · rw [List.length_append, List.map_append]
    exact h1
  · rcases List.mem_append.1 hq with hq | hq
    · exact ((hown.mine q hq).grown hg fun k hk => (hob k hk).2.2 q hq).wide (Nat.le_refl _) (Nat.le_trans hhi hg.size)
    · simp at hq; subst hq
      exact hrw
  · cases ha
    dsimp only
    rcases hat with hat | hat
    · rcases List.mem_append.1 hq with hq | hq
      · exact (hob _ hat).2.2 q hq
      · simp at hq; subst hq
        exact hr.off (.inl (by have := (hob _ hat).2.1; omega))
    · rcases List.mem_append.1 hq with hq | hq
      · exact (hown.mine q hq).off (.inr (by omega))
      · simp at hq; subst hq
        exact hr.off (.inr (by omega))
  · rw [List.pairwise_append]
    exact ⟨hown.apart, List.pairwise_singleton _ _, fun q hq q' hq' => by simp at hq'; subst hq'; exact Apart.of_in (hown.mine q hq) hr (.inl h12)⟩

namespace Fc
/-- A loop over the faces, as rangeB, its body told that not all have come. -/
theorem rangeC {m : Nat} {g : Operand} {ps : Array Tmp} {assign body : Code} {Q : Exit → Act → World → Prop} {a : Act} {V : World} {n : Nat} (h1 : 4 ≤ m) (Bs n₀ c : Nat) (A : Option Addr) (T : List (List Int)) (h4 : Tr.Four T) (hn : n ≤ 1048576) (hBs : Bs < V.heap.size) (hn₀ : n₀ ≤ V.heap.size)
    (hg : a.eval g = .func (.func 134) #[] #[.pointer (some ⟨Bs, 0, none⟩)]) (hps : 2 = ps.size) (hc : V.cell? ⟨Bs, 0, none⟩ = some (.slice A n c)) (hT : RdT V n₀ A n T)
    (I : List (Ix n) → World → Prop) (hI : OwnFrom V.heap.size I) (h0 : I [] V) (Cx : Ix n → Nat → World → Prop) (hCx : ∀ x Bx, OwnFrom V.heap.size (fun (_ : Unit) W => Cx x Bx W)) (acts : Ix n → Nat → Act)
    (hassign : ∀ (l : Nat) (pre : List (Ix n)) (x : Ix n) (W : World) (K : Act → World → Prop), I pre W → (∀ Bx W', KeepsFrom V.heap.size W W' → Below n₀ W W' → I pre W' → Cx x Bx W' → K (acts x Bx) W') →
      assign.wpIn (Fence.wide.inRound l) (m - 1 - 1) Tryd.prog (Exit.then K (fun _ _ _ => False)) { tmps := (ps.zip (encF T x)).foldl (fun t (p, v) => t.setIfInBounds p v) a.tmps, defers := [] } W)
    (hbody : ∀ (l : Nat) (pre : List (Ix n)) (x : Ix n) (Bx : Nat) (W : World), V.heap.size ≤ l → (∃ r, W.heap[l]? = some (.loop r)) → I pre W → Cx x Bx W → pre.length < n * 4 → body.wpIn (Fence.wide.inRound l) (m - 1 - 1) Tryd.prog (ownPostG V.heap.size (Below n₀) I (fun _ _ _ => False) (pre ++ [x]) W) (acts x Bx) W)
    (hdone : ∀ (D : Nat) (W : World), V.heap.size ≤ D → I (up n (n * 4)) W → W.heap[D]? = some (.deferred (some [])) → Q .normal { a with defers := { target := .collected D, args := #[] } :: a.defers } W) :
    (Code.rangeFunc g ps assign body).wpIn Fence.wide m Tryd.prog Q a V :=
  wpIn_rangeFunc_ownH rfl (by omega) hg trivial (enters_of Tryd.func134 (by kernel_rfl) rfl) (faces_stops Fence.wide _ trivial rfl (by omega) Bs n₀ n c A T h4 hn V hBs hn₀ hc hT) belowK_t (belowK_b hn₀) (Below.refl _ _) (fun _ => hps)
    I (fun _ _ _ => False) hI (fun _ _ _ _ _ hs _ _ => hs) h0 (fun x a' W => ∃ Bx, Cx x Bx W ∧ a' = acts x Bx)
    (fun x a' s X Y row hs hg hr => by obtain ⟨Bx, h, e⟩ := hs; exact ⟨Bx, hCx x Bx s X Y row h hg hr, e⟩)
    (fun l pre x W K hi hK => hassign l pre x W K hi (fun Bx W' k1 k2 k3 k4 => hK _ W' k1 k2 k3 ⟨Bx, k4, rfl⟩))
    (fun l pre x a' W hl hr hi hx hlen => by obtain ⟨Bx, h, rfl⟩ := hx; exact hbody l pre x Bx W hl hr hi h hlen)
    (fun D xs W hD hS hi hK => by subst hS; exact hdone D W hD hi hK)
    (fun D c pre W hD hS hi hK => hi.elim)

end Fc
end Go.Proofs.YtjendlfophdfeaaDoor

namespace Go.Proofs.YtjendlfophdfeaaDoor
open Go

section
variable {P : Program} {ops : Array Oper} {Q : Exit → Act → World → Prop} {md : Region.Mode} {S : World → Prop} {N : List Nat}

/-- Whether some load of N might come behind number j. -/
def asksS (md : Region.Mode) (ops : Array Oper) (N : List Nat) (j : Nat) : Bool := N.any fun k => !Region.waitsFor md ops j k
/-- Whatever order is drawn; behind each operation that a load may follow the world meets S. -/
def wpN (P : Program) (md : Region.Mode) (ops : Array Oper) (Q : Exit → Act → World → Prop) (S : World → Prop) (N : List Nat) : Nat → Array Bool → Act → World → Prop
  | 0, l, a, w => Region.ready md ops l = [] ∧ Q .normal a w
  | f + 1, l, a, w => (Region.ready md ops l = [] → Q .normal a w) ∧ ∀ j ∈ Region.ready md ops l, wpOp P ops Q j (fun a' w' => (asksS md ops N j = true → S w') ∧ wpN P md ops Q S N f (l.setIfInBounds j true) a' w') a w

theorem wpAny_of_N : ∀ (f : Nat) (l : Array Bool) (a : Act) (w : World), wpN P md ops Q S N f l a w → wpAny P md ops Q f l a w := by
  intro f
  induction f with
  | zero => exact fun _ _ _ h => h
  | succ f ih => exact fun l a w h => ⟨h.1, fun j hj => wpOp_mono (fun a' w' hk => ih _ a' w' hk.2) (h.2 j hj)⟩

theorem asks_of_ready {i j : Nat} {l : Array Bool} (hN : i ∈ N) (hi : i ∈ Region.ready md ops l) (hj : j ∈ Region.ready md ops l) : asksS md ops N j = true := by
  refine List.any_eq_true.2 ⟨i, hN, ?_⟩
  cases hw : Region.waitsFor md ops j i with
  | false => rfl
  | true =>
    obtain ⟨oj, hoj, e, he, hb, hon⟩ := Region.waitsFor_spec hw
    obtain ⟨_, oj', hoj', hall⟩ := mem_ready.1 hj
    obtain rfl : oj = oj' := Option.some.inj (hoj.symm.trans hoj')
    have h1 := hall e he hb
    rw [hon, getD_both (mem_ready.1 hi).1] at h1
    cases h1

/-- A load of N is taken first. -/
theorem wpN_first {i : Nat} {oi : Oper} {v : Value} (hi : ops[i]? = some oi) (hN : i ∈ N) (hsel : ∀ (j : Nat) (o : Oper) cs b, ops[j]? = some o → o.op ≠ .select cs b)
    (hQ : ∀ c a w, Q (.panic c) (a.put oi.dst v) w → Q (.panic c) a w) (f : Nat) :
    ∀ (l : Array Bool) (a : Act) (w : World), (∀ j oj, ops[j]? = some oj → j ≠ i → l.getD j true = false → (∀ e ∈ oj.after, Region.binds md e = true → e.on ≠ i) → oi.apart ops oj = true) →
      i ∈ Region.ready md ops l → YieldsIf P ops S oi v a → S w → wpN P md ops Q S N f (l.setIfInBounds i true) (a.put oi.dst v) w → wpN P md ops Q S N (f + 1) l a w := by
  induction f with
  | zero =>
    intro l a w _ hr hy hS H
    refine ⟨fun h => absurd hr (by rw [h]; exact List.not_mem_nil), fun j hj => ?_⟩
    by_cases e : j = i
    · rw [e]
      exact hy.wpOp hi hS ⟨fun _ => hS, H⟩
    · have h2 := ready_mono hj e
      rw [H.1] at h2
      exact absurd h2 List.not_mem_nil
  | succ f ih =>
    intro l a w hf hr hy hS H
    refine ⟨fun h => absurd hr (by rw [h]; exact List.not_mem_nil), fun j hj => ?_⟩
    by_cases e : j = i
    · rw [e]
      exact hy.wpOp hi hS ⟨fun _ => hS, H⟩
    have hask := asks_of_ready hN hr hj
    obtain ⟨hlj, oj, hoj, hall⟩ := mem_ready.1 hj
    have hfree : ∀ x ∈ oj.after, Region.binds md x = true → x.on ≠ i := fun x hx hb hon => by
      have h1 := hall x hx hb
      rw [hon, getD_both (mem_ready.1 hr).1] at h1
      cases h1
    refine wpOp_mono (fun a' w' hk => ?_) (wpOp_putIf hoj (hf j oj hoj e hlj hfree) (fun cs b => hsel i oi cs b hi) (fun cs b => hsel j oj cs b hoj) hQ hy (H.2 j (ready_mono hj e)))
    refine ⟨fun _ => hk.2.1 hask, ih _ a' w' (fun k ok hk1 hk2 hk3 hk4 => hf k ok hk1 hk2 ?_ hk4) (ready_mono hr (Ne.symm e)) hk.1 (hk.2.1 hask) ?_⟩
    · by_cases e2 : j = k
      · rw [← e2]; exact hlj
      · rw [getD_set_ne true e2] at hk3; exact hk3
    · rw [Array.setIfInBounds_comm _ _ e]
      exact hk.2.2
theorem wpN_take {i : Nat} {oi : Oper} {v : Value} {f : Nat} {l : Array Bool} {a : Act} {w : World} (hi : ops[i]? = some oi) (hN : N.contains i = true) (hs : Region.noSelect ops = true) (hf : Region.free md ops l i = true) (hr : (Region.ready md ops l).contains i = true)
    (hQ : ∀ c a w, Q (.panic c) (a.put oi.dst v) w → Q (.panic c) a w) (hy : YieldsIf P ops S oi v a) (hS : S w) (h : wpN P md ops Q S N f (l.setIfInBounds i true) (a.put oi.dst v) w) : wpN P md ops Q S N (f + 1) l a w :=
  wpN_first hi (by simpa using hN) (Region.noSelect_spec hs) hQ f l a w (Region.free_spec hi hf) (by simpa using hr) hy hS h
/-- One operation alone may come up. -/
theorem wpN_one {j : Nat} {o : Oper} {f : Nat} {l : Array Bool} {a : Act} {w : World} (hr : Region.ready md ops l = [j]) (ho : ops[j]? = some o)
    (h : ∀ K : Act → World → Prop, (∀ a' w', (asksS md ops N j = true → S w') → wpN P md ops Q S N f (l.setIfInBounds j true) a' w' → K a' w') → if Region.wanted o (yielded ops a.tmps) = true then Oper.wp P o a w K Q else K (a.put o.dst undef) w) : wpN P md ops Q S N (f + 1) l a w := by
  refine ⟨(fun h0 => by rw [hr] at h0; cases h0), fun k hk => ?_⟩
  rw [hr] at hk
  obtain rfl : k = j := by simpa using hk
  have h1 := h (fun a' w' => (asksS md ops N k = true → S w') ∧ wpN P md ops Q S N f (l.setIfInBounds k true) a' w') (fun a' w' h2 h3 => ⟨h2, h3⟩)
  unfold wpOp
  simp only [ho]
  split
  · rename_i hw; rw [if_pos hw] at h1; exact .inl h1
  · rename_i hw; rw [if_neg hw] at h1; exact h1
/-- All have come up. -/
theorem wpN_done {f : Nat} {l : Array Bool} {a : Act} {w : World} (hr : Region.ready md ops l = []) (h : Q .normal a w) : wpN P md ops Q S N f l a w := by
  cases f with
  | zero => exact ⟨hr, h⟩
  | succ f => exact ⟨fun _ => h, (fun k hk => by rw [hr] at hk; cases hk)⟩
/-- The beginning, in a program under 'wide'. -/
theorem wp_region_N (S : World → Prop) (N : List Nat) {id : Nat} {a : Act} {w : World} (hm : P.follows .mixedOrders = true) (h : wpN P .any ops Q S N ops.size (Array.replicate ops.size false) a w.drew) : (Code.region id ops true).wp P Q a w :=
  wp_region_any hm (wpAny_of_N _ _ _ _ h)
end

end Go.Proofs.YtjendlfophdfeaaDoor

namespace Go.Proofs.YtjendlfophdfeaaDoor
open Go

section
variable {F : Fence} {n : Nat} {P : Program} {ops : Array Oper} {Q : Exit → Act → World → Prop} {md : Region.Mode} {S : World → Prop} {N : List Nat}

/-- The operation ends, with a value or without. -/
def EndsIn (P : Program) (o : Oper) (a : Act) (w : World) (K : Act → World → Prop) : Prop :=
  (∃ v w', (execOp a.eval o).run P w = .ok (.value v) w' ∧ K (a.put o.dst v) w') ∨ ∃ w', (execOp a.eval o).run P w = .ok .skip w' ∧ K (a.put o.dst undef) w'
theorem EndsIn.mono {o : Oper} {a : Act} {w : World} {K K' : Act → World → Prop} (h : EndsIn P o a w K) (hk : ∀ a w, K a w → K' a w) : EndsIn P o a w K' := by
  rcases h with ⟨v, w', h1, h2⟩ | ⟨w', h1, h2⟩
  · exact .inl ⟨v, w', h1, hk _ _ h2⟩
  · exact .inr ⟨w', h1, hk _ _ h2⟩
/-- No call, no defer, no select, no guard. -/
def plainB (ops : Array Oper) : Bool := ops.all fun o => o.guard.isNone && match o.op with | .call _ => false | .defer _ => false | .select _ _ => false | _ => true
def wpM (P : Program) (md : Region.Mode) (ops : Array Oper) (Q : Exit → Act → World → Prop) (S : World → Prop) (N : List Nat) : Nat → Array Bool → Act → World → Prop
  | 0, l, a, w => Region.ready md ops l = [] ∧ Q .normal a w
  | f + 1, l, a, w => (Region.ready md ops l = [] → Q .normal a w) ∧ ∀ j ∈ Region.ready md ops l, ∃ o, ops[j]? = some o ∧ EndsIn P o a w (fun a' w' => (asksS md ops N j = true → S w') ∧ wpM P md ops Q S N f (l.setIfInBounds j true) a' w')

theorem plain_at (hp : plainB ops = true) {j : Nat} {o : Oper} (ho : ops[j]? = some o) : o.guard = none ∧ (∀ c, o.op ≠ .call c) ∧ (∀ c, o.op ≠ .defer c) ∧ ∀ cs b, o.op ≠ .select cs b := by
  unfold plainB at hp
  have h := Array.all_eq_true'.1 hp o (Array.mem_of_getElem? ho)
  simp only [Bool.and_eq_true, Option.isNone_iff_eq_none] at h
  obtain ⟨h1, h2⟩ := h
  exact ⟨h1, fun c e => by rw [e] at h2; simp at h2, fun c e => by rw [e] at h2; simp at h2, fun cs b e => by rw [e] at h2; simp at h2⟩

theorem wpAnyIn_of_M (hp : plainB ops = true) : ∀ (f : Nat) (l : Array Bool) (a : Act) (w : World), wpM P md ops Q S N f l a w → wpAnyIn F n P md ops Q f l a w := by
  intro f
  induction f with
  | zero => exact fun _ _ _ h => h
  | succ f ih =>
    refine fun l a w h => ⟨h.1, fun j hj => ?_⟩
    obtain ⟨o, ho, he⟩ := h.2 j hj
    obtain ⟨hg, hc, hd, _⟩ := plain_at hp ho
    have hab : ∀ g, o.about P w a.eval = some g → F.fn g := fun g hgg => by
      unfold Oper.about at hgg
      split at hgg
      · rename_i c e; exact absurd e (hc c)
      · cases hgg
    unfold wpOpIn
    simp only [ho]
    rw [if_pos (by simp [Region.wanted, hg])]
    refine ⟨hab, ?_⟩
    rw [Oper.semAt_eq _ _ _ hd]
    rcases he with ⟨v, w', h1, h2⟩ | ⟨w', h1, h2⟩
    · rw [h1]; exact ih _ _ _ h2.2
    · rw [h1]; exact ih _ _ _ h2.2

/-- A load of N is taken first. -/
theorem wpM_first {i : Nat} {oi : Oper} {v : Value} (hp : plainB ops = true) (hi : ops[i]? = some oi) (hN : i ∈ N) (f : Nat) :
    ∀ (l : Array Bool) (a : Act) (w : World), (∀ j oj, ops[j]? = some oj → j ≠ i → l.getD j true = false → (∀ e ∈ oj.after, Region.binds md e = true → e.on ≠ i) → oi.apart ops oj = true) →
      i ∈ Region.ready md ops l → (∀ w, S w → (execOp a.eval oi).run P w = .ok (.value v) w) → S w → wpM P md ops Q S N f (l.setIfInBounds i true) (a.put oi.dst v) w → wpM P md ops Q S N (f + 1) l a w := by
  have hsi := (plain_at hp hi).2.2.2
  induction f with
  | zero =>
    intro l a w _ hr hy hS H
    refine ⟨fun h => absurd hr (by rw [h]; exact List.not_mem_nil), fun j hj => ?_⟩
    by_cases e : j = i
    · rw [e]
      exact ⟨oi, hi, .inl ⟨v, w, hy w hS, fun _ => hS, H⟩⟩
    · have h2 := ready_mono hj e
      rw [H.1] at h2
      exact absurd h2 List.not_mem_nil
  | succ f ih =>
    intro l a w hf hr hy hS H
    refine ⟨fun h => absurd hr (by rw [h]; exact List.not_mem_nil), fun j hj => ?_⟩
    by_cases e : j = i
    · rw [e]
      exact ⟨oi, hi, .inl ⟨v, w, hy w hS, fun _ => hS, H⟩⟩
    have hask := asks_of_ready hN hr hj
    obtain ⟨hlj, oj', hoj', hall⟩ := mem_ready.1 hj
    have hfree : ∀ x ∈ oj'.after, Region.binds md x = true → x.on ≠ i := fun x hx hb hon => by
      have h1 := hall x hx hb
      rw [hon, getD_both (mem_ready.1 hr).1] at h1
      cases h1
    obtain ⟨oj, hoj, he⟩ := H.2 j (ready_mono hj e)
    obtain rfl : oj = oj' := Option.some.inj (hoj.symm.trans hoj')
    have hsj := (plain_at hp hoj).2.2.2
    obtain ⟨a1, a2, a3⟩ := Oper.apart_spec (hf j oj hoj e hlj hfree)
    have next : ∀ u w', ((asksS md ops N j = true → S w') ∧ wpM P md ops Q S N f ((l.setIfInBounds i true).setIfInBounds j true) ((a.put oi.dst v).put oj.dst u) w') → (asksS md ops N j = true → S w') ∧ wpM P md ops Q S N (f + 1) (l.setIfInBounds j true) (a.put oj.dst u) w' := fun u w' hk => by
      refine ⟨fun _ => hk.1 hask, ih _ _ w' (fun k ok hk1 hk2 hk3 hk4 => hf k ok hk1 hk2 ?_ hk4) (ready_mono hr (Ne.symm e)) (fun w2 hs2 => by rw [execOp_put oi hsi a oj.dst u a3]; exact hy w2 hs2) (hk.1 hask) ?_⟩
      · by_cases e2 : j = k
        · rw [← e2]; exact hlj
        · rw [getD_set_ne true e2] at hk3; exact hk3
      · rw [Array.setIfInBounds_comm _ _ e, ← Act.put_comm a v u a2]
        exact hk.2
    refine ⟨oj, hoj, ?_⟩
    unfold EndsIn at he ⊢
    rw [execOp_put oj hsj a oi.dst v a1] at he
    rcases he with ⟨u, w', h1, h2⟩ | ⟨w', h1, h2⟩
    · exact .inl ⟨u, w', h1, next u w' h2⟩
    · exact .inr ⟨w', h1, next undef w' h2⟩
theorem wpM_take {i : Nat} {oi : Oper} {v : Value} {f : Nat} {l : Array Bool} {a : Act} {w : World} (hp : plainB ops = true) (hi : ops[i]? = some oi) (hN : N.contains i = true) (hf : Region.free md ops l i = true) (hr : (Region.ready md ops l).contains i = true)
    (hy : ∀ w, S w → (execOp a.eval oi).run P w = .ok (.value v) w) (hS : S w) (h : wpM P md ops Q S N f (l.setIfInBounds i true) (a.put oi.dst v) w) : wpM P md ops Q S N (f + 1) l a w :=
  wpM_first hp hi (by simpa using hN) f l a w (Region.free_spec hi hf) (by simpa using hr) hy hS h
/-- One operation alone may come up. -/
theorem wpM_one {j : Nat} {o : Oper} {f : Nat} {l : Array Bool} {a : Act} {w : World} (hr : Region.ready md ops l = [j]) (ho : ops[j]? = some o)
    (h : EndsIn P o a w (fun a' w' => (asksS md ops N j = true → S w') ∧ wpM P md ops Q S N f (l.setIfInBounds j true) a' w')) : wpM P md ops Q S N (f + 1) l a w := by
  refine ⟨(fun h0 => by rw [hr] at h0; cases h0), fun k hk => ?_⟩
  rw [hr] at hk
  obtain rfl : k = j := by simpa using hk
  exact ⟨o, ho, h⟩
theorem wpM_done {f : Nat} {l : Array Bool} {a : Act} {w : World} (hr : Region.ready md ops l = []) (h : Q .normal a w) : wpM P md ops Q S N f l a w := by
  cases f with
  | zero => exact ⟨hr, h⟩
  | succ f => exact ⟨fun _ => h, (fun k hk => by rw [hr] at hk; cases hk)⟩
/-- The beginning, in a program under 'wide'. -/
theorem wpIn_region_M (S : World → Prop) (N : List Nat) {id : Nat} {a : Act} {w : World} (hm : P.follows .mixedOrders = true) (hp : plainB ops = true) (h : wpM P .any ops Q S N ops.size (Array.replicate ops.size false) a w.drew) : (Code.region id ops true).wpIn F n P Q a w :=
  wpIn_region_any hm (wpAnyIn_of_M hp _ _ _ _ h)
end

end Go.Proofs.YtjendlfophdfeaaDoor

namespace Go.Proofs.YtjendlfophdfeaaDoor
open Go

section
variable {F : Fence} {n : Nat} {P : Program} {ops : Array Oper} {Q : Exit → Act → World → Prop} {md : Region.Mode} {S : World → Prop} {N : List Nat}
/-- As EndsIn, or by a call whose answers are told for every act. -/
def EndsC (F : Fence) (n : Nat) (P : Program) (Q : Exit → Act → World → Prop) (o : Oper) (a : Act) (w : World) (K : Act → World → Prop) : Prop :=
  EndsIn P o a w K ∨ ∃ T : Value → World → Prop, (∀ (a' : Act) (K' : Act → World → Prop), (∀ v w', T v w' → K' (a'.put o.dst v) w') → o.uponIn F n P a' K' Q ((o.semAt F.round a.eval).run P w)) ∧ ∀ v w', T v w' → K (a.put o.dst v) w'
/-- No defer, no select, no guard. -/
def plainC (ops : Array Oper) : Bool := ops.all fun o => o.guard.isNone && match o.op with | .defer _ => false | .select _ _ => false | _ => true
def wpC (F : Fence) (n : Nat) (P : Program) (md : Region.Mode) (ops : Array Oper) (Q : Exit → Act → World → Prop) (S : World → Prop) (N : List Nat) : Nat → Array Bool → Act → World → Prop
  | 0, l, a, w => Region.ready md ops l = [] ∧ Q .normal a w
  | f + 1, l, a, w => (Region.ready md ops l = [] → Q .normal a w) ∧ ∀ j ∈ Region.ready md ops l, ∃ o, ops[j]? = some o ∧ EndsC F n P Q o a w (fun a' w' => (asksS md ops N j = true → S w') ∧ wpC F n P md ops Q S N f (l.setIfInBounds j true) a' w')
theorem plainC_at (hp : plainC ops = true) {j : Nat} {o : Oper} (ho : ops[j]? = some o) : o.guard = none ∧ (∀ c, o.op ≠ .defer c) ∧ ∀ cs b, o.op ≠ .select cs b := by
  unfold plainC at hp
  have h := Array.all_eq_true'.1 hp o (Array.mem_of_getElem? ho)
  simp only [Bool.and_eq_true, Option.isNone_iff_eq_none] at h
  obtain ⟨h1, h2⟩ := h
  exact ⟨h1, fun c e => by rw [e] at h2; simp at h2, fun cs b e => by rw [e] at h2; simp at h2⟩
theorem wpAnyIn_of_C (hp : plainC ops = true) (hall : ∀ g, F.fn g) : ∀ (f : Nat) (l : Array Bool) (a : Act) (w : World), wpC F n P md ops Q S N f l a w → wpAnyIn F n P md ops Q f l a w := by
  intro f
  induction f with
  | zero => exact fun _ _ _ h => h
  | succ f ih =>
    refine fun l a w h => ⟨h.1, fun j hj => ?_⟩
    obtain ⟨o, ho, he⟩ := h.2 j hj
    obtain ⟨hg, hd, _⟩ := plainC_at hp ho
    unfold wpOpIn
    simp only [ho]
    rw [if_pos (by simp [Region.wanted, hg])]
    refine ⟨fun g _ => hall g, ?_⟩
    rcases he with he | ⟨T, h1, h2⟩
    · rw [Oper.semAt_eq _ _ _ hd]
      rcases he with ⟨v, w', h1, h2⟩ | ⟨w', h1, h2⟩
      · rw [h1]; exact ih _ _ _ h2.2
      · rw [h1]; exact ih _ _ _ h2.2
    · exact h1 a _ fun v w' ht => ih _ _ _ (h2 v w' ht).2
/-- A load of N is taken first. -/
theorem wpC_first {i : Nat} {oi : Oper} {v : Value} (hp : plainC ops = true) (hi : ops[i]? = some oi) (hN : i ∈ N) (f : Nat) :
    ∀ (l : Array Bool) (a : Act) (w : World), (∀ j oj, ops[j]? = some oj → j ≠ i → l.getD j true = false → (∀ e ∈ oj.after, Region.binds md e = true → e.on ≠ i) → oi.apart ops oj = true) →
      i ∈ Region.ready md ops l → (∀ w, S w → (execOp a.eval oi).run P w = .ok (.value v) w) → S w → wpC F n P md ops Q S N f (l.setIfInBounds i true) (a.put oi.dst v) w → wpC F n P md ops Q S N (f + 1) l a w := by
  have hsi := (plainC_at hp hi).2.2
  induction f with
  | zero =>
    intro l a w _ hr hy hS H
    refine ⟨fun h => absurd hr (by rw [h]; exact List.not_mem_nil), fun j hj => ?_⟩
    by_cases e : j = i
    · rw [e]
      exact ⟨oi, hi, .inl (.inl ⟨v, w, hy w hS, fun _ => hS, H⟩)⟩
    · have h2 := ready_mono hj e
      rw [H.1] at h2
      exact absurd h2 List.not_mem_nil
  | succ f ih =>
    intro l a w hf hr hy hS H
    refine ⟨fun h => absurd hr (by rw [h]; exact List.not_mem_nil), fun j hj => ?_⟩
    by_cases e : j = i
    · rw [e]
      exact ⟨oi, hi, .inl (.inl ⟨v, w, hy w hS, fun _ => hS, H⟩)⟩
    have hask := asks_of_ready hN hr hj
    obtain ⟨hlj, oj', hoj', hall⟩ := mem_ready.1 hj
    have hfree : ∀ x ∈ oj'.after, Region.binds md x = true → x.on ≠ i := fun x hx hb hon => by
      have h1 := hall x hx hb
      rw [hon, getD_both (mem_ready.1 hr).1] at h1
      cases h1
    obtain ⟨oj, hoj, he⟩ := H.2 j (ready_mono hj e)
    obtain rfl : oj = oj' := Option.some.inj (hoj.symm.trans hoj')
    have hsj := (plainC_at hp hoj).2.2
    have hdj := (plainC_at hp hoj).2.1
    obtain ⟨a1, a2, a3⟩ := Oper.apart_spec (hf j oj hoj e hlj hfree)
    have next : ∀ u w', ((asksS md ops N j = true → S w') ∧ wpC F n P md ops Q S N f ((l.setIfInBounds i true).setIfInBounds j true) ((a.put oi.dst v).put oj.dst u) w') → (asksS md ops N j = true → S w') ∧ wpC F n P md ops Q S N (f + 1) (l.setIfInBounds j true) (a.put oj.dst u) w' := fun u w' hk => by
      refine ⟨fun _ => hk.1 hask, ih _ _ w' (fun k ok hk1 hk2 hk3 hk4 => hf k ok hk1 hk2 ?_ hk4) (ready_mono hr (Ne.symm e)) (fun w2 hs2 => by rw [execOp_put oi hsi a oj.dst u a3]; exact hy w2 hs2) (hk.1 hask) ?_⟩
      · by_cases e2 : j = k
        · rw [← e2]; exact hlj
        · rw [getD_set_ne true e2] at hk3; exact hk3
      · rw [Array.setIfInBounds_comm _ _ e, ← Act.put_comm a v u a2]
        exact hk.2
    refine ⟨oj, hoj, ?_⟩
    rcases he with he | ⟨T, h1, h2⟩
    · unfold EndsIn at he
      rw [execOp_put oj hsj a oi.dst v a1] at he
      rcases he with ⟨u, w', h1, h2⟩ | ⟨w', h1, h2⟩
      · exact .inl (.inl ⟨u, w', h1, next u w' h2⟩)
      · exact .inl (.inr ⟨w', h1, next undef w' h2⟩)
    · rw [Oper.semAt_eq _ _ _ hdj, execOp_put oj hsj a oi.dst v a1, ← Oper.semAt_eq F.round _ _ hdj] at h1
      exact .inr ⟨T, h1, fun u w' ht => next u w' (h2 u w' ht)⟩
theorem wpC_take {i : Nat} {oi : Oper} {v : Value} {f : Nat} {l : Array Bool} {a : Act} {w : World} (hp : plainC ops = true) (hi : ops[i]? = some oi) (hN : N.contains i = true) (hf : Region.free md ops l i = true) (hr : (Region.ready md ops l).contains i = true)
    (hy : ∀ w, S w → (execOp a.eval oi).run P w = .ok (.value v) w) (hS : S w) (h : wpC F n P md ops Q S N f (l.setIfInBounds i true) (a.put oi.dst v) w) : wpC F n P md ops Q S N (f + 1) l a w :=
  wpC_first hp hi (by simpa using hN) f l a w (Region.free_spec hi hf) (by simpa using hr) hy hS h
/-- One call alone may come up. -/
theorem wpC_call {j : Nat} {o : Oper} {f : Nat} {l : Array Bool} {a : Act} {w : World} (T : Value → World → Prop) (hr : Region.ready md ops l = [j]) (ho : ops[j]? = some o)
    (h1 : ∀ (a' : Act) (K' : Act → World → Prop), (∀ v w', T v w' → K' (a'.put o.dst v) w') → o.uponIn F n P a' K' Q ((o.semAt F.round a.eval).run P w))
    (h2 : ∀ v w', T v w' → (asksS md ops N j = true → S w') ∧ wpC F n P md ops Q S N f (l.setIfInBounds j true) (a.put o.dst v) w') : wpC F n P md ops Q S N (f + 1) l a w := by
  refine ⟨(fun h0 => by rw [hr] at h0; cases h0), fun k hk => ?_⟩
  rw [hr] at hk
  obtain rfl : k = j := by simpa using hk
  exact ⟨o, ho, .inr ⟨T, h1, h2⟩⟩
theorem wpC_done {f : Nat} {l : Array Bool} {a : Act} {w : World} (hr : Region.ready md ops l = []) (h : Q .normal a w) : wpC F n P md ops Q S N f l a w := by
  cases f with
  | zero => exact ⟨hr, h⟩
  | succ f => exact ⟨fun _ => h, (fun k hk => by rw [hr] at hk; cases hk)⟩
/-- The beginning, in a program under 'wide'. -/
theorem wpIn_region_C (S : World → Prop) (N : List Nat) {id : Nat} {a : Act} {w : World} (hm : P.follows .mixedOrders = true) (hp : plainC ops = true) (hall : ∀ g, F.fn g) (h : wpC F n P .any ops Q S N ops.size (Array.replicate ops.size false) a w.drew) : (Code.region id ops true).wpIn F n P Q a w :=
  wpIn_region_any hm (wpAnyIn_of_C hp hall _ _ _ _ h)
end

end Go.Proofs.YtjendlfophdfeaaDoor

namespace Go.Proofs.YtjendlfophdfeaaDoor
open Go.RowKit Go.Shelf
namespace Sk
attribute [local go_sem] Oper.semAt_some
/-- A forest whose classes are known. -/
def FoN (w : World) (g N wd l0 : Nat) (F : FS) : Prop := ∃ A c lo hi, BoxF w (g + 1) g N wd A (rk F.m N) c ∧ OwnP w lo hi A (rk F.m N) c (rts g F.m N) ∧ (l0 ≤ lo ∧ hi ≤ w.heap.size ∧ g + 2 ≤ l0) ∧ FoE w g N { F with bd := nB F N } (clF F.m N) ∧ g + 2 ≤ w.heap.size
theorem FoN.below {w w' : World} {g N wd l0 : Nat} {F : FS} (h : FoN w g N wd l0 F) (hb : Below w.heap.size w w') : FoN w' g N wd l0 F := by
  obtain ⟨A, c, lo, hi, b, o, ⟨h1, h2, h3⟩, f, t⟩ := h
  exact ⟨A, c, lo, hi, Box3.below b hb (by omega), o.below hb h2, ⟨h1, Nat.le_trans h2 hb.size, h3⟩, f.below hb (by omega), Nat.le_trans t hb.size⟩
theorem FoN.kept {w w' : World} {g N wd l0 lo' hi' : Nat} {F : FS} (h : FoN w g N wd l0 F) (hk : Kept lo' hi' w w') (h1' : hi' ≤ l0) (h2' : hi' ≤ g ∨ g + 2 ≤ lo') : FoN w' g N wd l0 F := by
  obtain ⟨A, c, lo, hi, b, o, ⟨h1, h2, h3⟩, f, t⟩ := h
  exact ⟨A, c, lo, hi, Box3.kept b hk (by omega) (by omega), o.kept hk h2 (.inr (by omega)), ⟨h1, Nat.le_trans h2 hk.size, h3⟩, f.kept hk (by omega), Nat.le_trans t hk.size⟩
theorem OwnP.grownC {w w' : World} {lo hi n c : Nat} {A : Option Addr} {vs : List Value} {row : Option Nat} (h : OwnP w lo hi A n c vs) (hg : w.grownBy w' row) (hr : ∀ k, row = some k → ∃ o : Obj, w.heap[k]? = some o ∧ o.isCells = false) : OwnP w' lo hi A n c vs := by
  refine ⟨⟨h.1.1, ?_⟩, h.2⟩
  rcases h.1.2 with h0 | ⟨g, cap, cur, hv, hb, hgg, q⟩
  · exact .inl h0
  · refine .inr ⟨g, cap, cur, hv, hb, ?_, q⟩
    rw [hg.block g (Array.getElem?_eq_some_iff.1 hgg).1 (fun e => by
      obtain ⟨o, ho, hc⟩ := hr g e.symm
      rw [hgg] at ho
      cases ho
      cases hc)]
    exact hgg
theorem FoN.grownC {w w' : World} {g N wd l0 : Nat} {F : FS} {row : Option Nat} (h : FoN w g N wd l0 F) (hg : w.grownBy w' row) (hr : ∀ k, row = some k → ∃ o : Obj, w.heap[k]? = some o ∧ o.isCells = false) : FoN w' g N wd l0 F := by
  obtain ⟨A, c, lo, hi, ⟨b0, b1, b2⟩, o, ⟨h1, h2, h3⟩, ⟨p, s, f⟩, t⟩ := h
  refine ⟨A, c, lo, hi, ⟨cell_kept b0 hg hr, cell_kept b1 hg hr, cell_kept b2 hg hr⟩, o.grownC hg hr, ⟨h1, Nat.le_trans h2 hg.size, h3⟩, ⟨p, s, f.keep hg.size ?_⟩, Nat.le_trans t hg.size⟩
  obtain ⟨ca, e⟩ := f.blk
  exact hg.block g f.lt (fun x => by
    obtain ⟨o', ho, hc⟩ := hr g x.symm
    rw [e] at ho
    cases ho
    cases hc)
theorem Sk3.keep {w w' : World} {n z : Nat} {S : S3} (h : Sk3 w n z S) (hs : w.heap.size ≤ w'.heap.size) (hk : ∀ k, k < z + 6 → w'.heap[k]? = w.heap[k]?) : Sk3 w' n z S := by
  have cc : ∀ b o, b < z + 6 → w'.cell? ⟨b, o, none⟩ = w.cell? ⟨b, o, none⟩ := fun b o hb => World.cell?_of_block (a := ⟨b, o, none⟩) (hk b hb)
  have cf : ∀ b, b < z + 6 → Free w b → Free w' b := fun b hb hf o => (World.frozen?_of_block (a := ⟨b, o, none⟩) (hk b hb)).trans (hf o)
  have ce : ∀ {g N : Nat} {F : FS}, g < z + 6 → FoE w g N F (fun _ => 0) → FoE w' g N F (fun _ => 0) := fun hb ⟨p, s, f⟩ => ⟨p, s, f.keep hs (hk _ hb)⟩
  exact ⟨⟨(cc _ _ (by omega)).trans h.bv.1, (cc _ _ (by omega)).trans h.bv.2.1, (cc _ _ (by omega)).trans h.bv.2.2⟩, ⟨(cc _ _ (by omega)).trans h.be.1, (cc _ _ (by omega)).trans h.be.2.1, (cc _ _ (by omega)).trans h.be.2.2⟩, ⟨(cc _ _ (by omega)).trans h.bf.1, (cc _ _ (by omega)).trans h.bf.2.1, (cc _ _ (by omega)).trans h.bf.2.2⟩, ce (by omega) h.v, ce (by omega) h.e, ce (by omega) h.f, Nat.le_trans h.lt hs, cf _ (by omega) h.fv, cf _ (by omega) h.fe, cf _ (by omega) h.ff⟩
theorem KeepsFrom.of_below' {B : Nat} {W W' : World} (h : Below W.heap.size W W') : KeepsFrom B W W' := ⟨h.size, fun k _ _ hk _ => (h.block k (Array.getElem?_eq_some_iff.1 hk).1).trans hk⟩
/-- What skeletonForestOf hands back. -/
def SkN (w : World) (n z : Nat) (T : List (List Int)) : Prop := FoN w z (4 * n) 4 (z + 6) (FT T).v ∧ FoN w (z + 2) (6 * n) 6 (z + 6) (FT T).e ∧ FoN w (z + 4) (4 * n) 4 (z + 6) (FT T).f
theorem SkN.below {w w' : World} {n z : Nat} {T : List (List Int)} (h : SkN w n z T) (hb : Below w.heap.size w w') : SkN w' n z T := ⟨h.1.below hb, h.2.1.below hb, h.2.2.below hb⟩
def ResSk (w : World) (n : Nat) (T : List (List Int)) (e : Ending) (w' : World) : Prop := ∃ z, e = .returned (.agg #[.pointer (some ⟨z + 1, 0, none⟩), .pointer (some ⟨z + 3, 0, none⟩), .pointer (some ⟨z + 5, 0, none⟩)]) ∧ w.heap.size ≤ z ∧ SkN w' n z T ∧ Below w.heap.size w w'
theorem num_fon {w w' : World} {e : Ending} {g N wd l0 : Nat} {F : FS} (h : NumD g N wd F w e w') (h1 : l0 ≤ w.heap.size) (h2 : g + 2 ≤ l0) : e = .returned (.tuple #[]) ∧ FoN w' g N wd l0 F ∧ Kept g (g + 2) w w' := by
  obtain ⟨he, A, c, b, o, f, k⟩ := h
  exact ⟨he, ⟨A, c, w.heap.size, w'.heap.size, b, o, ⟨h1, Nat.le_refl _, h2⟩, f, by have := k.size; omega⟩, k⟩
/-- The tables of edges. -/
def Es (W : World) : Prop := Eg.Te W ∧ Eg.Tn W
theorem Es.below {W W' : World} {B : Nat} (h : Es W) (hb : Below B W W') (h0 : 3 < B) (h1 : 2 < B) : Es W' := ⟨h.1.below hb h0, h.2.below hb h1⟩
set_option maxRecDepth 100000 in
set_option maxHeartbeats 32000000 in
theorem forest_impl (A : Option Addr) (n c : Nat) (T : List (List Int)) (w : World) (h : Fc.RdT w w.heap.size A n T) (hv : Fc.Vs w) (he : Es w) (hIs : Tr.Is T) :
    Calls Tryd.prog 116 #[.agg #[.slice A n c]] w (ResSk w n T) := by
  have h0 := hv.pos
  have h1 : 3 < w.heap.size ∧ 2 < w.heap.size := ⟨he.1.pos, he.2.pos⟩
  have LN := Lib.hid h.len
  have h8 : n ≤ 8 := by rw [← LN.out]; exact hIs.1
  have HT := Lib.hid h
  have IS := Lib.hid hIs
  have HV := Lib.hid hv
  have HE := Lib.hid he
  have H4 := Lib.hid hIs.2.1
  clear h hv he hIs
  obtain ⟨nv, hnv⟩ : ∃ nv, 4 * n = nv := ⟨_, rfl⟩
  obtain ⟨ne, hne⟩ : ∃ ne, 6 * n = ne := ⟨_, rfl⟩
  have nv1 : nv ≤ 48 := by omega
  have ne1 : ne ≤ 48 := by omega
  refine (callsIn_wide (n := 5)).1 ?_
  refine callsIn_of_wp_marks Tryd.func116 rfl trivial ?_ rfl
  simp only [Tryd.ntmps116, List.size_toArray, List.length_cons, List.length_nil, Nat.reduceAdd, Nat.reduceSub, Array.replicate_succ, Array.replicate_zero, List.push_toArray, List.append_toArray, List.nil_append, List.cons_append]
  obtain ⟨U, hU⟩ : ∃ U, U = (w.alloc (Obj.cells #[.slice A n c] 29)).alloc (Obj.cells #[.pointer none, .pointer none, .pointer none] 149) := ⟨_, rfl⟩
  have hB : Below w.heap.size w U := by rw [hU]; exact al2 w _ _
  obtain ⟨zu, zub⟩ : U.heap.size ≤ w.heap.size + 2 ∧ w.heap.size + 2 ≤ U.heap.size := by rw [hU]; simp
  have k0 : U.cell? ⟨w.heap.size, 0, none⟩ = some (.slice A n c) := by rw [hU]; simp [go_sem]
  have k1 : U.cell? ⟨w.heap.size + 1, 0, none⟩ = some (.pointer none) := by rw [hU]; simp [go_sem]
  have k2 : U.cell? ⟨w.heap.size + 1, 1, none⟩ = some (.pointer none) := by rw [hU]; simp [go_sem]
  have k3 : U.cell? ⟨w.heap.size + 1, 2, none⟩ = some (.pointer none) := by rw [hU]; simp [go_sem]
  have FU := Lib.hid (show Free U (w.heap.size + 1) from by rw [hU]; have := Free.new (w.alloc (Obj.cells #[.slice A n c] 29)) 149 #[.pointer none, .pointer none, .pointer none]; simpa using this)
  have DU := Lib.hid hB
  obtain ⟨z, hz⟩ : ∃ z, U.heap.size = z := ⟨_, rfl⟩
  have Z := Lib.hid hz
  have N1 := Lib.hid (show Calls Tryd.prog 159 #[.int .i64 (n : Int), .int .i64 4] U (fun e w' => e = .returned (.pointer (some ⟨z + 1, 0, none⟩)) ∧ BoxF w' (z + 1) z nv 4 none 0 0 ∧ Free w' (z + 1) ∧ FoE w' z nv (FS.start nv) (fun _ => 0) ∧ (w'.heap.size ≤ z + 2 ∧ z + 2 ≤ w'.heap.size) ∧ Below z U w') from by
    have := newForest_impl n 4 nv U h8 (by omega) hnv
    unfold NewF at this
    rw [hz] at this
    exact this)
  have N2 := Lib.hid (fun (W : World) (hW : W.heap.size = z + 2) => (show Calls Tryd.prog 159 #[.int .i64 (n : Int), .int .i64 6] W (fun e w' => e = .returned (.pointer (some ⟨z + 3, 0, none⟩)) ∧ BoxF w' (z + 3) (z + 2) ne 6 none 0 0 ∧ Free w' (z + 3) ∧ FoE w' (z + 2) ne (FS.start ne) (fun _ => 0) ∧ (w'.heap.size ≤ z + 4 ∧ z + 4 ≤ w'.heap.size) ∧ Below (z + 2) W w') from by
    have := newForest_impl n 6 ne W h8 (by omega) hne
    unfold NewF at this
    rw [hW] at this
    exact this))
  have N3 := Lib.hid (fun (W : World) (hW : W.heap.size = z + 4) => (show Calls Tryd.prog 159 #[.int .i64 (n : Int), .int .i64 4] W (fun e w' => e = .returned (.pointer (some ⟨z + 5, 0, none⟩)) ∧ BoxF w' (z + 5) (z + 4) nv 4 none 0 0 ∧ Free w' (z + 5) ∧ FoE w' (z + 4) nv (FS.start nv) (fun _ => 0) ∧ (w'.heap.size ≤ z + 6 ∧ z + 6 ≤ w'.heap.size) ∧ Below (z + 4) W w') from by
    have := newForest_impl n 4 nv W h8 (by omega) hnv
    unfold NewF at this
    rw [hW] at this
    exact this))
  obtain ⟨zl, zr⟩ : z ≤ w.heap.size + 2 ∧ w.heap.size + 2 ≤ z := by omega
  have HNV := Lib.hid hnv
  have HNE := Lib.hid hne
  clear hB zu zub hz hnv hne
  gi_wp2_with fail
  rw [← hU]
  clear hU
  refine ⟨trivial, ?_⟩
  (with_reducible refine (callsIn_wide.2 N1.out).mono ?_)
  rintro e w1 ⟨rfl, b1, f1, o1, ⟨s1, t1⟩, d1⟩
  have D1 := Lib.hid d1
  have B1 := Lib.hid b1
  have F1 := Lib.hid f1
  have O1 := Lib.hid o1
  clear d1 b1 f1 o1
  gi_wp2_with fail
  refine ⟨trivial, ?_⟩
  (with_reducible refine (callsIn_wide.2 (N2.out _ (by omega))).mono ?_)
  rintro e w2 ⟨rfl, b2, f2, o2, ⟨s2, t2⟩, d2⟩
  have D2 := Lib.hid d2
  have B2 := Lib.hid b2
  have F2 := Lib.hid f2
  have O2 := Lib.hid o2
  clear d2 b2 f2 o2
  gi_wp2_with fail
  refine ⟨trivial, ?_⟩
  (with_reducible refine (callsIn_wide.2 (N3.out _ (by omega))).mono ?_)
  rintro e w3 ⟨rfl, b3, f3, o3, ⟨s3, t3⟩, d3⟩
  have S0 := Lib.hid (show Sk3 w3 n z (S3.start n) from by
    have e1 : Below (z + 2) w1 w2 := D2.out
    have e2 : Below (z + 4) w2 w3 := d3
    have e3 : Below (z + 2) w1 w3 := e1.trans (e2.mono (by omega))
    refine ⟨?_, ?_, ?_, ?_, ?_, ?_, t3, ?_, ?_, ?_⟩
    · rw [HNV.out]; exact Box3.below B1.out e3 (by omega)
    · rw [HNE.out]; exact Box3.below B2.out e2 (by omega)
    · rw [HNV.out]; exact b3
    · show FoE _ _ _ (FS.start (4 * n)) _; rw [HNV.out]; exact O1.out.below e3 (by omega)
    · show FoE _ _ _ (FS.start (6 * n)) _; rw [HNE.out]; exact O2.out.below e2 (by omega)
    · show FoE _ _ _ (FS.start (4 * n)) _; rw [HNV.out]; exact o3
    · exact F1.out.below e3 (by omega)
    · exact F2.out.below e2 (by omega)
    · exact f3)
  have DX := Lib.hid (DU.out.trans (((D1.out.trans (D2.out.mono (by omega))).trans (d3.mono (by omega))).mono (show w.heap.size ≤ z by omega)))
  have DZ := Lib.hid ((D1.out.trans (D2.out.mono (by omega))).trans (d3.mono (show z ≤ z + 4 by omega)))
  clear b3 f3 o3 d3 N1 N2 N3 B1 B2 F1 F2 O1 O2 D1 D2
  obtain ⟨V, hV⟩ : ∃ V, V = (w3.alloc (Obj.cells #[.pointer (some ⟨z + 1, 0, none⟩), .pointer (some ⟨z + 3, 0, none⟩), .pointer (some ⟨z + 5, 0, none⟩)] 149)).alloc (Obj.cells #[.slice A n c] 29) := ⟨_, rfl⟩
  obtain ⟨zV, zVb⟩ : V.heap.size ≤ w3.heap.size + 2 ∧ w3.heap.size + 2 ≤ V.heap.size := by rw [hV]; simp
  have hBX : Below w3.heap.size w3 V := by rw [hV]; exact al2 _ _ _
  have DV := Lib.hid (DX.out.trans (hBX.mono (by omega)))
  have DZV := Lib.hid (DZ.out.trans (hBX.mono (by omega)))
  have K0 := Lib.hid (show V.cell? ⟨w3.heap.size, 0, none⟩ = some (.pointer (some ⟨z + 1, 0, none⟩)) from by rw [hV]; simp [go_sem])
  have K1 := Lib.hid (show V.cell? ⟨w3.heap.size, 1, none⟩ = some (.pointer (some ⟨z + 3, 0, none⟩)) from by rw [hV]; simp [go_sem])
  have K2 := Lib.hid (show V.cell? ⟨w3.heap.size, 2, none⟩ = some (.pointer (some ⟨z + 5, 0, none⟩)) from by rw [hV]; simp [go_sem])
  have KB := Lib.hid (show V.cell? ⟨w3.heap.size + 1, 0, none⟩ = some (.slice A n c) from by rw [hV]; simp [go_sem])
  have SV := Lib.hid (S0.out.below hBX t3)
  have RV := Lib.hid ((HT.out.below DV.out).more (show w.heap.size ≤ z by omega))
  have q1 := Lib.hid ((DZV.out.cell (p := ⟨w.heap.size + 1, 0, none⟩) (by dsimp only; omega)).trans k1)
  have q2 := Lib.hid ((DZV.out.cell (p := ⟨w.heap.size + 1, 1, none⟩) (by dsimp only; omega)).trans k2)
  have q3 := Lib.hid ((DZV.out.cell (p := ⟨w.heap.size + 1, 2, none⟩) (by dsimp only; omega)).trans k3)
  have FV := Lib.hid (FU.out.below DZV.out (by omega))
  have k0 := (DZ.out.cell (p := ⟨w.heap.size, 0, none⟩) (by dsimp only; omega)).trans k0
  have k0a := Fc.cell_al (Obj.cells #[.pointer (some ⟨z + 1, 0, none⟩), .pointer (some ⟨z + 3, 0, none⟩), .pointer (some ⟨z + 5, 0, none⟩)] 149) k0
  gi_wp2_with (refine ⟨trivial, ?_⟩; gi_at_call 69; refine (Fc.facesOf_in Fence.wide _ trivial rfl _ _ _ _).mono ?_; rintro e w' ⟨rfl, rfl⟩)
  rw [← hV]
  clear hV hBX DX DZ S0 k0 k0a k1 k2 k3 DU FU
  refine Fc.rangeC (by omega) (w3.heap.size + 1) z c A T H4.out (by omega) (by omega) (by omega) rfl rfl KB.out RV.out
    (fun pre W => (W.cell? ⟨w3.heap.size, 0, none⟩ = some (.pointer (some ⟨z + 1, 0, none⟩)) ∧ W.cell? ⟨w3.heap.size, 1, none⟩ = some (.pointer (some ⟨z + 3, 0, none⟩)) ∧ W.cell? ⟨w3.heap.size, 2, none⟩ = some (.pointer (some ⟨z + 5, 0, none⟩)) ∧ Sk3 W n z (run T (S3.start n) pre)) ∧ Below z V W)
    (OwnFrom.and (fun s Y Z row hs hg hr => by
      obtain ⟨h1, h2, h3, h4⟩ := hs
      have hr' : ∀ r, row = some r → ∃ o : Obj, Y.heap[r]? = some o ∧ o.isCells = false := fun r e => (hr r e).2
      exact ⟨cell_kept h1 hg hr', cell_kept h2 hg hr', cell_kept h3 hg hr', h4.keep hg.size fun k hk => hg.block k (by have := h4.lt; omega) (fun e => by have := (hr k e.symm).1; omega)⟩) (ownFrom_below (by omega) (by omega)))
    ⟨⟨K0.out, K1.out, K2.out, SV.out⟩, Below.refl _ _⟩
    (fun x Bx W => w3.heap.size < Bx ∧ (W.cell? ⟨Bx, 0, none⟩ = some (.int .i64 ((x.1 : Int) / 4)) ∧ W.cell? ⟨Bx, 1, none⟩ = some (.int .i64 ((x.1 : Int) % 4))) ∧ W.cell? ⟨Bx + 1, 0, none⟩ = some (.int .i64 (Tr.tt T (x.1 / 4) (x.1 % 4))) ∧ W.cell? ⟨Bx + 1, 1, none⟩ = some (.int .i64 (Tr.pp T (x.1 / 4) (x.1 % 4))))
    (fun x Bx => Own.from (fun s X Y row hs hg hr => ⟨hs.1, ⟨cell_kept hs.2.1.1 hg hr, cell_kept hs.2.1.2 hg hr⟩, cell_kept hs.2.2.1 hg hr, cell_kept hs.2.2.2 hg hr⟩) _) ?acts ?assign ?body ?done
  case assign =>
    rintro l pre x W K ⟨⟨b0, b1, b2, hS⟩, hB⟩ hK
    dsimp only [Fc.encF]
    have zW : z ≤ W.heap.size := Nat.le_trans (by omega) hB.size
    gi_wp2
    obtain ⟨Y, hY⟩ : ∃ Y, Y = (W.alloc (Obj.cells #[.int .i64 ((x.1 : Int) / 4), .int .i64 ((x.1 : Int) % 4)] 94)).alloc (Obj.cells #[.int .i64 (Tr.tt T (x.1 / 4) (x.1 % 4)), .int .i64 (Tr.pp T (x.1 / 4) (x.1 % 4))] 83) := ⟨_, rfl⟩
    have m0 : Y.cell? ⟨W.heap.size, 0, none⟩ = some (.int .i64 ((x.1 : Int) / 4)) := by rw [hY]; simp [go_sem]
    have m1 : Y.cell? ⟨W.heap.size, 1, none⟩ = some (.int .i64 ((x.1 : Int) % 4)) := by rw [hY]; simp [go_sem]
    have n0 : Y.cell? ⟨W.heap.size + 1, 0, none⟩ = some (.int .i64 (Tr.tt T (x.1 / 4) (x.1 % 4))) := by rw [hY]; simp [go_sem]
    have n1 : Y.cell? ⟨W.heap.size + 1, 1, none⟩ = some (.int .i64 (Tr.pp T (x.1 / 4) (x.1 % 4))) := by rw [hY]; simp [go_sem]
    have hAA : Below W.heap.size W Y := by rw [hY]; exact al2 _ _ _
    have hA : Below z W Y := hAA.mono zW
    have hF : KeepsFrom V.heap.size W Y := by rw [hY]; exact ((KeepsOthers.alloc W _).trans (KeepsOthers.alloc _ _)).from _
    have zx : w3.heap.size < W.heap.size := Nat.lt_of_lt_of_le (by omega) hB.size
    have hI0 : Y.cell? ⟨w3.heap.size, 0, none⟩ = some (.pointer (some ⟨z + 1, 0, none⟩)) := (hAA.cell (p := ⟨w3.heap.size, 0, none⟩) zx).trans b0
    have hI1 : Y.cell? ⟨w3.heap.size, 1, none⟩ = some (.pointer (some ⟨z + 3, 0, none⟩)) := (hAA.cell (p := ⟨w3.heap.size, 1, none⟩) zx).trans b1
    have hI2 : Y.cell? ⟨w3.heap.size, 2, none⟩ = some (.pointer (some ⟨z + 5, 0, none⟩)) := (hAA.cell (p := ⟨w3.heap.size, 2, none⟩) zx).trans b2
    have hSY : Sk3 Y n z (run T (S3.start n) pre) := hS.below hAA hS.lt
    rw [← hY]
    clear hY
    revert m0 m1 n0 n1 zx
    generalize W.heap.size = Bx
    intro m0 m1 n0 n1 zx
    exact hK Bx _ hF hA ⟨⟨hI0, hI1, hI2, hSY⟩, hB.trans hA⟩ ⟨zx, ⟨m0, m1⟩, n0, n1⟩
  case body =>
    rintro l pre x Bx W hl ⟨r, hr⟩ ⟨⟨b0, b1, b2, hS⟩, hB⟩ ⟨zx, ⟨m0, m1⟩, q0, q1⟩ hlen
    have xlt := x.2
    obtain ⟨a, hae⟩ : ∃ a, x.1 / 4 = a := ⟨_, rfl⟩
    obtain ⟨f, hfe⟩ : ∃ f, x.1 % 4 = f := ⟨_, rfl⟩
    have ha : a < n := by omega
    have hf : f < 4 := by omega
    have ia : ((x.1 : Int) / 4) = (a : Int) := by omega
    have jf : ((x.1 : Int) % 4) = (f : Int) := by omega
    rw [ia] at m0
    rw [jf] at m1
    rw [hae, hfe] at q0 q1
    have SN := Lib.hid (show run T (S3.start n) (pre ++ [x]) = step T (run T (S3.start n) pre) a f from by rw [run_snoc, hae, hfe])
    have hzz := hB.size
    have zW : z + 6 ≤ W.heap.size := hS.lt
    have zB : Bx + 1 < W.heap.size := World.block_lt_of_cell? W _ q0
    have zw3 : w3.heap.size < W.heap.size := by omega
    have DW := Lib.hid (show Below w.heap.size w W from DV.out.trans (hB.mono (by omega)))
    obtain ⟨vb0, vb1⟩ := (HV.out.below DW.out h0.1).2
    have EW := Lib.hid (HE.out.below DW.out h1.1 h1.2)
    have SW := Lib.hid hS
    have HBW := Lib.hid hB
    have DB := IS.out.bd_iff (a := a) (f := f) (by rw [LN.out]; exact ha) hf
    obtain ⟨S, hSS⟩ : ∃ S, run T (S3.start n) pre = S := ⟨_, rfl⟩
    rw [hSS] at SN SW
    have KR := Lib.hid (fun (Y Y' : World) (hY : Kept z (z + 6) Y Y') => (show KeepsFrom V.heap.size Y Y' from ⟨hY.size, fun k o hk hk' _ => (hY.block k (Array.getElem?_eq_some_iff.1 hk').1 (by omega)).trans hk'⟩))
    have hmx : Tryd.prog.follows .mixedOrders = true := by kernel_rfl
    have hd : 1 ≤ 5 - 1 - 1 := by omega
    clear ia jf hae hfe xlt hS hr hB hSS
    by_cases hneg : Tr.tt T a f < 0
    · obtain ⟨g1, g2⟩ := DB.2 hneg
      have ST := Lib.hid (show step T S a f = ⟨vM S.v a f 4, eM S.e a f 6, S.f.mark (4 * a + f)⟩ from by unfold step; rw [if_pos hneg])
      rw [g1] at q0
      rw [g2] at q1
      have MK := Lib.hid (mark_impl n z a f S W SW.out EW.out.1 (by omega) ha hf h8)
      clear g1 g2 hneg DB
      gi_wp2_with fail
      refine ⟨trivial, ?_⟩
      (with_reducible refine (CallsIn.inRound l (callsIn_wide.2 MK.out)).mono ?_)
      rintro e Y ⟨rfl, hSY, hKY⟩
      have bz := hKY.below (B := z) (Nat.le_refl _) (by omega)
      gi_wp2
      exact ⟨KR.out _ _ hKY, bz, ⟨kc hKY b0 (by omega), kc hKY b1 (by omega), kc hKY b2 (by omega), by rw [SN.out, ST.out]; exact hSY⟩, HBW.out.trans bz⟩
    · obtain ⟨tb, p, ht, hp, htn, hp24⟩ := glued_of IS.out (a := a) (f := f) (by rw [LN.out]; exact ha) hf hneg
      have htn' : tb < n := by rw [← LN.out]; exact htn
      obtain ⟨x0, x1, x2, x3, hx4, -⟩ := Fc.im_four p hp24
      obtain ⟨g, hg⟩ : ∃ g, gm p f = g := ⟨_, rfl⟩
      have ST := Lib.hid (show step T S a f = ⟨vI S.v a f tb p 4, eI S.e a f tb p 6, S.f.join (4 * a + f) (4 * tb + g) 1⟩ from by unfold step; rw [if_neg hneg, ht, hp, Int.toNat_natCast, Int.toNat_natCast, hg])
      rw [ht] at q0
      rw [hp] at q1
      have GG := Lib.hid (fun (Y : World) (hb : Below W.heap.size W Y) => (show Calls Tryd.prog 92 #[.agg #[.int .i64 (a : Int), .int .i64 (f : Int)], .agg #[.int .i64 (tb : Int), .int .i64 (p : Int)]] Y (fun e w' => e = .returned (.agg #[.int .i64 (a : Int), .int .i64 (f : Int), .int .i64 (tb : Int), .int .i64 (g : Int), .int .u8 (x0 : Int), .int .u8 (x1 : Int), .int .u8 (x2 : Int), .int .u8 (x3 : Int)]) ∧ Below Y.heap.size Y w') from by
        have := Fc.gluingOf_impl (a : Int) f p (tb : Int) x0 x1 x2 x3 Y hf hp24 hx4 (HV.out.below (DW.out.trans (hb.mono (by omega))) h0.1).1
        rw [(gm_all p hp24 f hf).1, hg] at this
        exact this))
      have II := Lib.hid (fun (Y : World) (hb : Below W.heap.size W Y) => identify_impl n z a f tb g p x0 x1 x2 x3 S Y (SW.out.below hb zW) (EW.out.below hb (by omega) (by omega)).1 (EW.out.below hb (by omega) (by omega)).2 (by omega) (by omega) ha hf htn' h8 hp24 hx4 hg)
      have SF := Lib.hid (show ∀ Y : World, Below W.heap.size W Y → (fun Y : World => Y.cell? ⟨w3.heap.size, 0, none⟩ = some (.pointer (some ⟨z + 1, 0, none⟩)) ∧ Y.cell? ⟨w3.heap.size, 1, none⟩ = some (.pointer (some ⟨z + 3, 0, none⟩)) ∧ Y.cell? ⟨w3.heap.size, 2, none⟩ = some (.pointer (some ⟨z + 5, 0, none⟩)) ∧ Y.cell? ⟨Bx, 0, none⟩ = some (.int .i64 (a : Int)) ∧ Y.cell? ⟨Bx, 1, none⟩ = some (.int .i64 (f : Int)) ∧ Y.cell? ⟨Bx + 1, 0, none⟩ = some (.int .i64 (tb : Int)) ∧ Y.cell? ⟨Bx + 1, 1, none⟩ = some (.int .i64 (p : Int))) Y from fun Y hb => ⟨(hb.cell (p := ⟨w3.heap.size, 0, none⟩) zw3).trans b0, (hb.cell (p := ⟨w3.heap.size, 1, none⟩) zw3).trans b1, (hb.cell (p := ⟨w3.heap.size, 2, none⟩) zw3).trans b2, (hb.cell (p := ⟨Bx, 0, none⟩) (by dsimp only; omega)).trans m0, (hb.cell (p := ⟨Bx, 1, none⟩) (by dsimp only; omega)).trans m1, (hb.cell (p := ⟨Bx + 1, 0, none⟩) zB).trans q0, (hb.cell (p := ⟨Bx + 1, 1, none⟩) zB).trans q1⟩)
      have KS := Lib.hid (fun (Y Y' : World) (hY : Kept z (z + 6) Y Y') (hS : (fun Y : World => Y.cell? ⟨w3.heap.size, 0, none⟩ = some (.pointer (some ⟨z + 1, 0, none⟩)) ∧ Y.cell? ⟨w3.heap.size, 1, none⟩ = some (.pointer (some ⟨z + 3, 0, none⟩)) ∧ Y.cell? ⟨w3.heap.size, 2, none⟩ = some (.pointer (some ⟨z + 5, 0, none⟩)) ∧ Y.cell? ⟨Bx, 0, none⟩ = some (.int .i64 (a : Int)) ∧ Y.cell? ⟨Bx, 1, none⟩ = some (.int .i64 (f : Int)) ∧ Y.cell? ⟨Bx + 1, 0, none⟩ = some (.int .i64 (tb : Int)) ∧ Y.cell? ⟨Bx + 1, 1, none⟩ = some (.int .i64 (p : Int))) Y) => (show (fun Y : World => Y.cell? ⟨w3.heap.size, 0, none⟩ = some (.pointer (some ⟨z + 1, 0, none⟩)) ∧ Y.cell? ⟨w3.heap.size, 1, none⟩ = some (.pointer (some ⟨z + 3, 0, none⟩)) ∧ Y.cell? ⟨w3.heap.size, 2, none⟩ = some (.pointer (some ⟨z + 5, 0, none⟩)) ∧ Y.cell? ⟨Bx, 0, none⟩ = some (.int .i64 (a : Int)) ∧ Y.cell? ⟨Bx, 1, none⟩ = some (.int .i64 (f : Int)) ∧ Y.cell? ⟨Bx + 1, 0, none⟩ = some (.int .i64 (tb : Int)) ∧ Y.cell? ⟨Bx + 1, 1, none⟩ = some (.int .i64 (p : Int))) Y' from by
        obtain ⟨y0, y1, y2, y3, y4, y5, y6⟩ := hS
        exact ⟨kc hY y0 (by omega), kc hY y1 (by omega), kc hY y2 (by omega), kc hY y3 (by omega), kc hY y4 (by omega), kc hY y5 (by omega), kc hY y6 (by omega)⟩))
      have b8' : ((tb : Int) == -1) = false := by simp
      have nb : ¬ (tb : Int) = -1 := by omega
      clear hneg DB ht hp htn hx4 hg hlen
      gi_wp2
      refine wpIn_region_C (fun Y : World => Y.cell? ⟨w3.heap.size, 0, none⟩ = some (.pointer (some ⟨z + 1, 0, none⟩)) ∧ Y.cell? ⟨w3.heap.size, 1, none⟩ = some (.pointer (some ⟨z + 3, 0, none⟩)) ∧ Y.cell? ⟨w3.heap.size, 2, none⟩ = some (.pointer (some ⟨z + 5, 0, none⟩)) ∧ Y.cell? ⟨Bx, 0, none⟩ = some (.int .i64 (a : Int)) ∧ Y.cell? ⟨Bx, 1, none⟩ = some (.int .i64 (f : Int)) ∧ Y.cell? ⟨Bx + 1, 0, none⟩ = some (.int .i64 (tb : Int)) ∧ Y.cell? ⟨Bx + 1, 1, none⟩ = some (.int .i64 (p : Int))) [0, 1, 2] (by kernel_rfl) (by kernel_rfl) (fun _ => trivial) ?_
      have hS : (fun Y : World => Y.cell? ⟨w3.heap.size, 0, none⟩ = some (.pointer (some ⟨z + 1, 0, none⟩)) ∧ Y.cell? ⟨w3.heap.size, 1, none⟩ = some (.pointer (some ⟨z + 3, 0, none⟩)) ∧ Y.cell? ⟨w3.heap.size, 2, none⟩ = some (.pointer (some ⟨z + 5, 0, none⟩)) ∧ Y.cell? ⟨Bx, 0, none⟩ = some (.int .i64 (a : Int)) ∧ Y.cell? ⟨Bx, 1, none⟩ = some (.int .i64 (f : Int)) ∧ Y.cell? ⟨Bx + 1, 0, none⟩ = some (.int .i64 (tb : Int)) ∧ Y.cell? ⟨Bx + 1, 1, none⟩ = some (.int .i64 (p : Int))) W.drew := SF.out W.drew (Below.refl W.heap.size W).drew
      refine wpC_take (i := 0) (oi := { dst := some 27, op := .load _ (.tmp 4), type := _, pos := _, after := _, guard := _ }) (v := ?_) (by kernel_rfl) rfl (by kernel_rfl) (by kernel_rfl) (by kernel_rfl) ?_ hS ?_
      rotate_left
      · intro Y hY
        obtain ⟨y0, y1, y2, y3, y4, y5, y6⟩ := hY
        go_simp
        try with_reducible rfl
      try simp only [Act.put, List.setIfInBounds_toArray, List.set_cons_zero, List.set_cons_succ]
      refine wpC_take (i := 1) (oi := { dst := some 28, op := .load _ (.tmp 5), type := _, pos := _, after := _, guard := _ }) (v := ?_) (by kernel_rfl) rfl (by kernel_rfl) (by kernel_rfl) (by kernel_rfl) ?_ hS ?_
      rotate_left
      · intro Y hY
        obtain ⟨y0, y1, y2, y3, y4, y5, y6⟩ := hY
        go_simp
        try with_reducible rfl
      try simp only [Act.put, List.setIfInBounds_toArray, List.set_cons_zero, List.set_cons_succ]
      refine wpC_take (i := 2) (oi := { dst := some 29, op := .load _ (.tmp 6), type := _, pos := _, after := _, guard := _ }) (v := ?_) (by kernel_rfl) rfl (by kernel_rfl) (by kernel_rfl) (by kernel_rfl) ?_ hS ?_
      rotate_left
      · intro Y hY
        obtain ⟨y0, y1, y2, y3, y4, y5, y6⟩ := hY
        go_simp
        try with_reducible rfl
      try simp only [Act.put, List.setIfInBounds_toArray, List.set_cons_zero, List.set_cons_succ]
      refine wpC_call (j := 3) (o := { dst := some 30, op := .call _, type := _, pos := _, after := _, guard := _ }) (fun v Y => v = (.agg #[.int .i64 (a : Int), .int .i64 (f : Int), .int .i64 (tb : Int), .int .i64 (g : Int), .int .u8 (x0 : Int), .int .u8 (x1 : Int), .int .u8 (x2 : Int), .int .u8 (x3 : Int)]) ∧ Below W.heap.size W Y) (by kernel_rfl) rfl ?_ ?_
      · intro a' K' hK
        go_simp
        refine (CallsIn.inRound l (callsIn_wide.2 (GG.out _ (Below.refl W.heap.size W).drew))).mono ?_
        rintro e w6 ⟨rfl, hb6⟩
        exact hK _ _ ⟨rfl, undrew hb6⟩
      rintro _ Y1 ⟨rfl, hb1⟩
      refine ⟨fun _ => SF.out Y1 hb1, ?_⟩
      have CU1 := Lib.hid hb1
      clear hb1
      try simp only [Act.put, List.setIfInBounds_toArray, List.set_cons_zero, List.set_cons_succ]
      refine wpC_call (j := 4) (o := { dst := some 31, op := .call _, type := _, pos := _, after := _, guard := _ }) (fun v Y => v = .tuple #[] ∧ (KeepsFrom V.heap.size W Y ∧ Below z W Y ∧ (Y.cell? ⟨w3.heap.size, 0, none⟩ = some (.pointer (some ⟨z + 1, 0, none⟩)) ∧ Y.cell? ⟨w3.heap.size, 1, none⟩ = some (.pointer (some ⟨z + 3, 0, none⟩)) ∧ Y.cell? ⟨w3.heap.size, 2, none⟩ = some (.pointer (some ⟨z + 5, 0, none⟩)) ∧ Sk3 Y n z (run T (S3.start n) (pre ++ [x]))) ∧ Below z V Y) ∧ (fun Y : World => Y.cell? ⟨w3.heap.size, 0, none⟩ = some (.pointer (some ⟨z + 1, 0, none⟩)) ∧ Y.cell? ⟨w3.heap.size, 1, none⟩ = some (.pointer (some ⟨z + 3, 0, none⟩)) ∧ Y.cell? ⟨w3.heap.size, 2, none⟩ = some (.pointer (some ⟨z + 5, 0, none⟩)) ∧ Y.cell? ⟨Bx, 0, none⟩ = some (.int .i64 (a : Int)) ∧ Y.cell? ⟨Bx, 1, none⟩ = some (.int .i64 (f : Int)) ∧ Y.cell? ⟨Bx + 1, 0, none⟩ = some (.int .i64 (tb : Int)) ∧ Y.cell? ⟨Bx + 1, 1, none⟩ = some (.int .i64 (p : Int))) Y) (by kernel_rfl) rfl ?_ ?_
      · intro a' K' hK
        go_simp
        refine (CallsIn.inRound l (callsIn_wide.2 (II.out Y1 CU1.out))).mono ?_
        rintro e w8 ⟨rfl, hS8, hK8⟩
        have s8 := KS.out _ _ hK8 (SF.out Y1 CU1.out)
        have b8 := (CU1.out.mono (show z ≤ W.heap.size by omega)).trans (hK8.below (B := z) (Nat.le_refl _) (by have := CU1.out.size; omega))
        exact hK _ _ ⟨rfl, ⟨(Sk.KeepsFrom.of_below' CU1.out).trans (KR.out _ _ hK8), b8, ⟨s8.1, s8.2.1, s8.2.2.1, by rw [SN.out, ST.out]; exact hS8⟩, HBW.out.trans b8⟩, s8⟩
      rintro _ Y3 ⟨rfl, hP, hS3⟩
      exact ⟨fun _ => hS3, wpC_done (by kernel_rfl) hP⟩
  case done =>
    rintro D W hD ⟨⟨b0, b1, b2, hS⟩, hB⟩ hK
    have hzz := hB.size
    have hFT : run T (S3.start n) (Fc.up n (n * 4)) = FT T := by rw [run_up _ _ _ (Nat.le_refl _)]; unfold FT; rw [LN.out]
    rw [hFT] at hS
    have SW := Lib.hid hS
    have DW := Lib.hid (show Below w.heap.size w W from DV.out.trans (hB.mono (by omega)))
    have zW : z + 6 ≤ W.heap.size := hS.lt
    have q1 := (hB.cell (p := ⟨w.heap.size + 1, 0, none⟩) (by dsimp only; omega)).trans q1.out
    have q2 := (hB.cell (p := ⟨w.heap.size + 1, 1, none⟩) (by dsimp only; omega)).trans q2.out
    have q3 := (hB.cell (p := ⟨w.heap.size + 1, 2, none⟩) (by dsimp only; omega)).trans q3.out
    have FW := Lib.hid (FV.out.below hB (show w.heap.size + 1 < z by omega))
    have hDl : D < W.heap.size := (Array.getElem?_eq_some_iff.1 hK).1
    have KK := Lib.hid hK
    have NU1 := Lib.hid (number_impl z (4 * n) 4 (FT T).v W SW.out.bv SW.out.fv SW.out.v (by omega))
    clear hS hB hK hFT
    gi_wp2_with fail
    refine ⟨trivial, ?_⟩
    (with_reducible refine (callsIn_wide.2 NU1.out).mono ?_)
    rintro e W1 hW1
    obtain ⟨rfl, hF1, hK1⟩ := num_fon (l0 := z + 6) hW1 zW (by omega)
    have P1 := Lib.hid hF1
    have b1 := kc hK1 b1 (by omega)
    have b0 := kc hK1 b0 (by omega)
    have b2 := kc hK1 b2 (by omega)
    have z1 := hK1.size
    have Q1 := Lib.hid (hK1.wide (lo' := z) (hi' := z + 6) (by omega) (by omega))
    have NU2 := Lib.hid (show Calls Tryd.prog 162 #[.pointer (some ⟨z + 3, 0, none⟩)] W1 (NumD (z + 2) (6 * n) 6 (FT T).e W1) from number_impl (z + 2) (6 * n) 6 (FT T).e W1 (box_kept SW.out.be hK1 (by omega) (by omega)) (SW.out.fe.kept hK1 (by omega) (by omega)) (SW.out.e.kept hK1 (by omega)) (by omega))
    have BF1 := Lib.hid (box_kept SW.out.bf hK1 (by omega) (by omega))
    have FF1 := Lib.hid (SW.out.ff.kept hK1 (by omega) (by omega))
    have FE1 := Lib.hid (SW.out.f.kept hK1 (by omega))
    clear hW1 hF1 hK1 NU1
    gi_wp2_with fail
    refine ⟨trivial, ?_⟩
    (with_reducible refine (callsIn_wide.2 NU2.out).mono ?_)
    rintro e W2 hW2
    obtain ⟨rfl, hF2, hK2⟩ := num_fon (l0 := z + 6) hW2 (by omega) (by omega)
    have P2 := Lib.hid hF2
    have P1 := Lib.hid (P1.out.kept hK2 (by omega) (.inr (by omega)))
    have b1 := kc hK2 b1 (by omega)
    have b0 := kc hK2 b0 (by omega)
    have b2 := kc hK2 b2 (by omega)
    have z2 := hK2.size
    have Q2 := Lib.hid (Q1.out.trans (hK2.wide (lo' := z) (hi' := z + 6) (by omega) (by omega)))
    have NU3 := Lib.hid (show Calls Tryd.prog 162 #[.pointer (some ⟨z + 5, 0, none⟩)] W2 (NumD (z + 4) (4 * n) 4 (FT T).f W2) from number_impl (z + 4) (4 * n) 4 (FT T).f W2 (box_kept BF1.out hK2 (by omega) (by omega)) (FF1.out.kept hK2 (by omega) (by omega)) (FE1.out.kept hK2 (by omega)) (by omega))
    clear hW2 hF2 hK2 NU2 Q1
    gi_wp2_with fail
    refine ⟨trivial, ?_⟩
    (with_reducible refine (callsIn_wide.2 NU3.out).mono ?_)
    rintro e W3 hW3
    obtain ⟨rfl, hF3, hK3⟩ := num_fon (l0 := z + 6) hW3 (by omega) (by omega)
    have P3 := Lib.hid hF3
    have P2 := Lib.hid (P2.out.kept hK3 (by omega) (.inr (by omega)))
    have P1 := Lib.hid (P1.out.kept hK3 (by omega) (.inr (by omega)))
    have b1 := kc hK3 b1 (by omega)
    have b0 := kc hK3 b0 (by omega)
    have b2 := kc hK3 b2 (by omega)
    have z3 := hK3.size
    have Q3 := Lib.hid (Q2.out.trans (hK3.wide (lo' := z) (hi' := z + 6) (by omega) (by omega)))
    have q1 := kc Q3.out q1 (by omega)
    have q2 := kc Q3.out q2 (by omega)
    have q3 := kc Q3.out q3 (by omega)
    have F3 := FW.out.kept Q3.out (by omega) (by omega)
    have e1 := F3 0
    have e2 := F3 1
    have e3 := F3 2
    have hKD := Lib.hid ((Q3.out.block D hDl (by omega)).trans KK.out)
    have D3 := Lib.hid (DW.out.trans (Q3.out.below (B := w.heap.size) (by omega) (by omega)))
    clear hW3 hF3 hK3 NU3 Q2 F3
    gi_wp2
    obtain ⟨X, hX⟩ : ∃ X, X = ((W3.setCell ⟨w.heap.size + 1, 0, none⟩ (.pointer (some ⟨z + 1, 0, none⟩))).setCell ⟨w.heap.size + 1, 1, none⟩ (.pointer (some ⟨z + 3, 0, none⟩))).setCell ⟨w.heap.size + 1, 2, none⟩ (.pointer (some ⟨z + 5, 0, none⟩)) := ⟨_, rfl⟩
    have KX := Lib.hid (show Kept (w.heap.size + 1) (w.heap.size + 2) W3 X from by rw [hX]; exact (((Kept.refl _ _ _).set_ (p := ⟨w.heap.size + 1, 0, none⟩) (Nat.le_refl _) (by dsimp only; omega) _).set_ (p := ⟨w.heap.size + 1, 1, none⟩) (Nat.le_refl _) (by dsimp only; omega) _).set_ (p := ⟨w.heap.size + 1, 2, none⟩) (Nat.le_refl _) (by dsimp only; omega) _)
    have r1 : X.cell? ⟨w.heap.size + 1, 0, none⟩ = some (.pointer (some ⟨z + 1, 0, none⟩)) := by rw [hX, World.cell?_setCell_other _ _ _ _ (by simp), World.cell?_setCell_other _ _ _ _ (by simp)]; exact World.cell?_setCell_same _ _ _ q1
    have r2 : X.cell? ⟨w.heap.size + 1, 1, none⟩ = some (.pointer (some ⟨z + 3, 0, none⟩)) := by rw [hX, World.cell?_setCell_other _ _ _ _ (by simp)]; exact World.cell?_setCell_same _ _ _ (show _ = some (Value.pointer none) from by rw [World.cell?_setCell_other _ _ _ _ (by simp)]; exact q2)
    have r3 : X.cell? ⟨w.heap.size + 1, 2, none⟩ = some (.pointer (some ⟨z + 5, 0, none⟩)) := by rw [hX]; exact World.cell?_setCell_same _ _ _ (show _ = some (Value.pointer none) from by rw [World.cell?_setCell_other _ _ _ _ (by simp), World.cell?_setCell_other _ _ _ _ (by simp)]; exact q3)
    have hKX := (KX.out.block D (by omega) (by omega)).trans hKD.out
    have DX := Lib.hid (show Below w.heap.size w X from by rw [hX]; exact ((D3.out.setCell (by dsimp only; omega) _).setCell (by dsimp only; omega) _).setCell (by dsimp only; omega) _)
    have hg := grownBy_putObj' X D (.deferred none)
    have hr : ∀ r, some D = some r → ∃ o : Obj, X.heap[r]? = some o ∧ o.isCells = false := fun r e => by cases e; exact ⟨_, hKX, rfl⟩
    have G := Lib.hid (show SkN (X.putObj D (.deferred none)) n z T from ⟨(P1.out.kept KX.out (by omega) (.inl (by omega))).grownC hg hr, (P2.out.kept KX.out (by omega) (.inl (by omega))).grownC hg hr, (P3.out.kept KX.out (by omega) (.inl (by omega))).grownC hg hr⟩)
    have c1 := cell_kept r1 hg hr
    have c2 := cell_kept r2 hg hr
    have c3 := cell_kept r3 hg hr
    have BD := DX.out.trans (belowK_b (w := w) (Nat.le_refl _) X D (.deferred (some [])) (.deferred none) (by omega) hKX rfl rfl)
    rw [← hX]
    clear hX
    exact Fc.leave1 (v := .agg #[.pointer (some ⟨z + 1, 0, none⟩), .pointer (some ⟨z + 3, 0, none⟩), .pointer (some ⟨z + 5, 0, none⟩)]) hKX (by simp [results, Tryd.results116, go_sem, c1, c2, c3]) ⟨z, rfl, by omega, G.out, BD⟩
end Sk
end Go.Proofs.YtjendlfophdfeaaDoor

namespace Go.Proofs.YtjendlfophdfeaaDoor
open Go Go.ChangeShapes Go.WideShapes Go.ChangeAt Go.RowKit
namespace Sk
abbrev lawLaid : List (String × DataW Unit) := [("loop.example/g00870/impl.perm4s", Rows.laid_loop_example_g00870_impl_perm4s), ("loop.example/g00870/impl.boundaryFace", Rows.laid_loop_example_g00870_impl_boundaryFace), ("loop.example/g00870/impl.edgeEnds", Rows.laid_loop_example_g00870_impl_edgeEnds), ("loop.example/g00870/impl.edgeNumbers", Rows.laid_loop_example_g00870_impl_edgeNumbers)]
set_option maxRecDepth 100000 in
theorem vs_laid {W : World} (h : laidMetH Tryd.prog lawLaid W) : Fc.Vs W := by
  have h1 : laidMet Tryd.prog lawLaid W := h
  obtain ⟨ps, ⟨g, t, cs, fuel, p, q, hg, ht, hvar, hd, ⟨g2, t2, cs2, fuel2, p2, q2, hg2, ht2, hvar2, hd2, ⟨g3, t3, cs3, fuel3, p3, q3, hg3, ht3, hvar3, hd3, ⟨g4, t4, cs4, fuel4, p4, q4, hg4, ht4, hvar4, hd4, _⟩, _⟩, _⟩, _⟩, _⟩ := h1
  rw [tabD] at hd
  refine ⟨tb_of_var hg ht hvar hd, ?_⟩
  obtain rfl := Option.some.inj ((show Tryd.prog.globalNamed "loop.example/g00870/impl.boundaryFace" = some 0 by kernel_rfl).symm.trans hg2)
  obtain rfl := Option.some.inj ((show (Tryd.prog.globals[0]?).map (·.type) = some 83 by kernel_rfl).symm.trans ht2)
  have k1 : Tryd.prog.cellsOf 2 = 1 := by kernel_rfl
  have k2 : Tryd.prog.cellsOf 83 = 2 := by kernel_rfl
  obtain ⟨y0, y1, n', e, hl, h0, h1⟩ := trod_struct2 Tryd.underlying83 hd2
  rw [k2] at hl
  obtain ⟨l⟩ := cs2
  match l, hl with
  | [v0, v1], _ =>
    simp only [k1] at h0 h1
    obtain ⟨x, e0, ex, _⟩ := DataW.trod_int Tryd.underlying2 (by simpa using h0)
    obtain ⟨y, e1, ey, _⟩ := DataW.trod_int Tryd.underlying2 (by simpa using h1)
    simp at e0 e1
    subst e0
    subst e1
    subst ex
    subst ey
    have hx : x = -1 ∧ y = 0 := by
      have e' := congrArg Prod.fst e
      unfold Rows.laid_loop_example_g00870_impl_boundaryFace at e'
      simp at e'
      omega
    obtain ⟨rfl, rfl⟩ := hx
    exact ⟨by have := World.var?_cell hg2 hvar2 0; simpa using this, by have := World.var?_cell hg2 hvar2 1; simpa using this⟩
set_option maxRecDepth 100000 in
theorem te_laid {W : World} (h : laidMetH Tryd.prog lawLaid W) : Eg.Te W := by
  have h1 : laidMet Tryd.prog lawLaid W := h
  obtain ⟨ps, ⟨g, t, cs, fuel, p, q, hg, ht, hvar, hd, ⟨g2, t2, cs2, fuel2, p2, q2, hg2, ht2, hvar2, hd2, ⟨g3, t3, cs3, fuel3, p3, q3, hg3, ht3, hvar3, hd3, ⟨g4, t4, cs4, fuel4, p4, q4, hg4, ht4, hvar4, hd4, _⟩, _⟩, _⟩, _⟩, _⟩ := h1
  rw [Eg.tabE] at hd3
  obtain rfl := Option.some.inj ((show Tryd.prog.globalNamed "loop.example/g00870/impl.edgeEnds" = some 3 by kernel_rfl).symm.trans hg3)
  obtain rfl := Option.some.inj ((show (Tryd.prog.globals[3]?).map (·.type) = some 250 by kernel_rfl).symm.trans ht3)
  have hr := cells_of_rows (n := 6) (m := 2) Tryd.underlying250 Tryd.underlying249 Tryd.underlying2 (by kernel_rfl) (by kernel_rfl) (by kernel_rfl) hd3
  intro i hi k hk
  have h2 := congrArg (·[k]?) (hr i hi)
  try dsimp only at h2
  rw [List.getElem?_take_of_lt hk, List.getElem?_drop, Eg.rowE i hi k hk, Array.getElem?_toList] at h2
  have h3 := World.var?_cell hg3 hvar3 (i * 2 + k)
  exact h3.trans h2
set_option maxRecDepth 100000 in
theorem tn_laid {W : World} (h : laidMetH Tryd.prog lawLaid W) : Eg.Tn W := by
  have h1 : laidMet Tryd.prog lawLaid W := h
  obtain ⟨ps, ⟨g, t, cs, fuel, p, q, hg, ht, hvar, hd, ⟨g2, t2, cs2, fuel2, p2, q2, hg2, ht2, hvar2, hd2, ⟨g3, t3, cs3, fuel3, p3, q3, hg3, ht3, hvar3, hd3, ⟨g4, t4, cs4, fuel4, p4, q4, hg4, ht4, hvar4, hd4, _⟩, _⟩, _⟩, _⟩, _⟩ := h1
  rw [Eg.tabN] at hd4
  obtain rfl := Option.some.inj ((show Tryd.prog.globalNamed "loop.example/g00870/impl.edgeNumbers" = some 2 by kernel_rfl).symm.trans hg4)
  obtain rfl := Option.some.inj ((show (Tryd.prog.globals[2]?).map (·.type) = some 240 by kernel_rfl).symm.trans ht4)
  have hr := cells_of_rows (n := 4) (m := 4) Tryd.underlying240 Tryd.underlying239 Tryd.underlying2 (by kernel_rfl) (by kernel_rfl) (by kernel_rfl) hd4
  intro i hi k hk
  have h2 := congrArg (·[k]?) (hr i hi)
  try dsimp only at h2
  rw [List.getElem?_take_of_lt hk, List.getElem?_drop, Eg.rowN i hi k hk, Array.getElem?_toList] at h2
  have h3 := World.var?_cell hg4 hvar4 (i * 4 + k)
  exact h3.trans h2
/-- All four. -/
def Ws (W : World) : Prop := Fc.Vs W ∧ Es W
theorem ws_laid {W : World} (h : laidMetH Tryd.prog lawLaid W) : Ws W := ⟨vs_laid h, te_laid h, tn_laid h⟩
theorem Ws.below {W W' : World} {B : Nat} (h : Ws W) (hb : Below B W W') (hB : W.heap.size ≤ B) : Ws W' := ⟨h.1.below hb (by have := h.1.pos; omega), h.2.below hb (by have := h.2.1.pos; omega) (by have := h.2.2.pos; omega)⟩
/-- How many steps of the door lay all. -/
abbrev doorN : Nat := 400
theorem door_met (os : Os) (args : Array Value) : laidMetH Tryd.prog lawLaid ((World.doorLaid Tryd.prog doorN os).forCall (fun _ _ => 0) ⟨#[], args, []⟩).memory :=
  laidMetH_of_parts3 (fuel := 8) (laidMet_of_run' 8 (by kernel_rfl) (by kernel_rfl)) (by kernel_rfl) (by kernel_rfl)
theorem vars_four {H : Type} {enc : TypeId × Value → H} {P : Program} {w : World} {sp : Nat → Bool} {n0 n1 n2 n3 : String} {gs : List (DataW H)} {ps : List MemPlace} (h : DataW.TrodVars enc P w sp [n0, n1, n2, n3] gs ps) : ∃ a b c d, gs = [a, b, c, d] := by
  cases gs with
  | nil => simp [DataW.TrodVars] at h
  | cons d ds =>
    obtain ⟨g0, t0, cs0, f0, p0, q0, k1, k2, k3, k4, hs, e⟩ := h
    cases ds with
    | nil => simp [DataW.TrodVars] at hs
    | cons d' ds' =>
      obtain ⟨g1, t1, cs1, f1, p1, q1, j1, j2, j3, j4, hs', e'⟩ := hs
      obtain ⟨g2, t2, cs2, f2, d2, p2, g3, t3, cs3, f3, d3, p3, rfl, _⟩ := trodVars_two hs'
      exact ⟨d, d', d2, d3, rfl⟩
end Sk
end Go.Proofs.YtjendlfophdfeaaDoor

