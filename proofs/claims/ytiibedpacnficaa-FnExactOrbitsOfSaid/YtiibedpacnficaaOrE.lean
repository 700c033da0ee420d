/- The program's OrbitsOf. No condition but those that each theorem names. -/
import Derived.Test.YtiibedpacnficaaOrD
namespace Go.Proofs.Ytiibedpacnficaa
open Go.RowKit

noncomputable def orbits (n : Int) (zss : List (List Int)) : List (List Int) := if Rp.arePm n zss = true then Ob.outs n zss n.toNat else []
/-- Rows in own memory. -/
def ResRows (w : World) (zss : List (List Int)) (e : Ending) (w' : World) : Prop :=
  ∃ A c rs, e = .returned (.slice A rs.length c) ∧ OwnS w' w.heap.size w'.heap.size A c rs ∧ vals rs = zss ∧ Below w.heap.size w w'
theorem Ob.outs_len (n : Int) (zss : List (List Int)) (x : Nat) : (Ob.outs n zss x).length ≤ x := by
  induction x with
  | zero => simp [Ob.outs]
  | succ x ih =>
    unfold Ob.outs
    split
    · rw [List.length_append]; simp; omega
    · omega

set_option maxRecDepth 100000 in
set_option maxHeartbeats 8000000 in
theorem orbits_impl (n : Int) (A : Option Addr) (c : Nat) (rs : List Rw) (w : World) (h : RdS w w.heap.size A rs) (hl : rs.length ≤ 1048576) (hrow : ∀ q ∈ rs, q.zs.length ≤ 1048576) :
    Calls Try.prog 33 #[.int .i64 n, .slice A rs.length c] w (ResRows w (orbits n (vals rs))) := by
  have AP := Lib.hid (perms_impl n A c rs w h hl hrow)
  have H := Lib.hid h
  unfold orbits
  clear h
  rcases ha : Rp.arePm n (vals rs) with _ | _
  · rw [ha] at AP
    clear ha
    go_enter Try.func33, Try.ntmps33
    go_wp2_with fail
    refine AP.out.mono ?_
    rintro e w1 ⟨rfl, hb⟩
    have B := Lib.hid hb
    clear hb
    go_wp2
    go_ret
    exact ⟨none, 0, [], rfl, OwnS.nil _ _ _, rfl, B.out⟩
  · rw [ha] at AP
    obtain ⟨⟨n1, n4⟩, hp⟩ := Rp.arePm_iff.1 ha
    obtain ⟨N, rfl⟩ : ∃ N : Nat, n = N := ⟨n.toNat, by omega⟩
    have HP := Lib.hid hp
    have OB := Lib.hid (fun (s : Nat) (hs : s < N) (W : World) (hR : RdS W W.heap.size A rs) => orbit_any (s : Int) (N : Int) A c rs W hR hl hp n4 (by omega) (by omega))
    have RES := Lib.hid (show (if true = true then Ob.outs (N : Int) (vals rs) (N : Int).toNat else []) = Ob.outs (N : Int) (vals rs) N from by simp)
    rw [RES.out]
    clear ha hp hrow RES
    go_enter Try.func33, Try.ntmps33
    go_wp2_with fail
    refine AP.out.mono ?_
    rintro e w1 ⟨rfl, hb⟩
    have B := Lib.hid hb
    clear hb
    go_wp2
    go_loopw [13, 5] (fun i v W => ∃ (x : Nat) (A2 : Option Addr) (c2 m : Nat) (qs : List Rw), i = .int .i64 x ∧ v = .slice A2 m c2 ∧ qs.length = m ∧ x ≤ N ∧ vals qs = Ob.outs (N : Int) (vals rs) x ∧ OwnS W w.heap.size W.heap.size A2 c2 qs ∧ Below w.heap.size w W) (fun i _ _ => N - (intOf i).toNat)
    case atStart => exact ⟨0, none, 0, 0, [], rfl, rfl, rfl, Nat.zero_le _, rfl, OwnS.nil _ _ _, B.out⟩
    case round =>
      obtain ⟨x, A2, c2, m, qs, rfl, rfl, hm, hx, hv, ho, hb⟩ := hrel
      have QM := Lib.hid hm
      have V := Lib.hid hv
      have O := Lib.hid ho
      have D := Lib.hid hb
      have ML := Lib.hid (show m ≤ x from by rw [← hm, ← vals_len, hv]; exact Ob.outs_len _ _ _)
      clear hm hv ho hb B
      by_cases hlt : x < N
      · have i1 : (x : Int) < (N : Int) := by omega
        have FL : ∀ (W : World) (a b : Option Addr) (i j k l : Nat), (Instr.field 77 (.agg #[.slice a i j, .slice b k l]) 0).run Try.prog W = .ok (.slice a i j) W := fun W a b i j k l => by kernel_rfl
        have C1 := Lib.hid (OB.out x hlt wr ((H.out.below D.out).more D.out.size))
        go_wp2_with fail
        refine C1.out.mono ?_
        rintro e w2 ⟨k, hk, he, gn, cn, At, nt, ct, vs, rfl, hO, hg1, hg2, _, hb2⟩
        obtain ⟨l1, l4⟩ := Ob.bfs_len HP.out n4 (show (0 : Int) ≤ x by omega) i1 hk
        obtain ⟨l, hl'⟩ : ∃ l, Ob.bfs (vals rs) (x : Int) k = l := ⟨_, rfl⟩
        have CLs := Lib.hid (Ob.srt_cl HP.out n4 (show (0 : Int) ≤ x by omega) i1 hk he)
        rw [hl'] at hO l1 l4 CLs ⊢
        obtain ⟨q, hq⟩ : ∃ q, l.length = q := ⟨_, rfl⟩
        rw [hq] at hO l1 l4 CLs ⊢
        have SO := Lib.hid (sort_any (some ⟨gn, 0, none⟩) q cn l gn (gn + 1) w2 hO l1 l4)
        have B2 := Lib.hid hb2
        clear hO hk he hl' hq hb2
        go_wp2_with fail
        refine SO.out.mono ?_
        rintro e w3 ⟨rfl, hO3, hk3⟩
        rw [CLs.out] at hO3
        obtain ⟨y, hy⟩ : ∃ y, (Ob.cl (N : Int) (vals rs) (x : Int)).getD 0 0 = y := ⟨_, rfl⟩
        obtain ⟨l2, hl2⟩ : ∃ l2, Ob.cl (N : Int) (vals rs) (x : Int) = l2 := ⟨_, rfl⟩
        have L2 := Lib.hid hl2
        have Y := Lib.hid hy
        rw [hl2] at hO3 hy
        have O3 := Lib.hid hO3
        have K3 := Lib.hid hk3
        have s2 := B2.out.size
        have s3 := hk3.size
        obtain ⟨g3, z3, e3, _, _, hz3, hc3, _⟩ := hO3.at_ (k := 0) (by omega)
        cases e3
        obtain rfl : z3 = y := by rw [← hz3]; exact hy
        have B3 := Lib.hid (B2.out.trans (hk3.below (B := wr.heap.size) (by omega) (by omega)))
        have L2n := Lib.hid hO3.len
        clear hO3 hk3 hz3 hy hl2 SO C1
        by_cases hyx : z3 = x
        · have t1 : (z3 == (x : Int)) = true := by simpa using hyx
          have NX := Lib.hid (show Ob.outs (N : Int) (vals rs) (x + 1) = Ob.outs (N : Int) (vals rs) x ++ [l2] from by
            show (if _ then _ else _) = _
            rw [if_pos (by rw [Y.out]; exact hyx), L2.out])
          have RI := Lib.hid (show Rw.In ⟨some ⟨gn, 0, none⟩, cn, l2⟩ w3 gn (gn + 1) from ⟨by dsimp only; rw [L2n.out]; exact (Wd.own_caps O3.out).1, (Wd.own_caps O3.out).2, by dsimp only; rw [L2n.out]; exact O3.out.mine⟩)
          have SV := Lib.hid (show Rw.sv ⟨some ⟨gn, 0, none⟩, cn, l2⟩ = .slice (some ⟨gn, 0, none⟩) q cn from by show Value.slice _ l2.length _ = _; rw [L2n.out])
          clear hyx
          go_upto_region 10 with fail
          go_wp2_with (at_builtin; refine push_row rfl _ _ rfl w.heap.size wr.heap.size gn c2 m w3.heap.size A2 qs ⟨some ⟨gn, 0, none⟩, cn, l2⟩ rfl QM.out (by exact O.out.below (B3.out.trans ((al1 w3 _).mono (by omega))) (Nat.le_refl _)) rfl (by rw [SV.out]; exact Wd.alloc_first _ _ _ _ rfl) (by exact (RI.out.below (al1 w3 _) (by omega)).wide (Nat.le_refl _) (by simp; omega)) hg1 (by have := D.out.size; omega) (by have := D.out.size; simp; omega) (by simp; omega) (by have := ML.out; omega) ?_; intro A7 c7 w7 h5 h6; have O7 := Lib.hid h5; have K7 := Lib.hid h6; clear h5 h6 hc3)
          go_roundw
          case rel => exact ⟨x + 1, A7, c7, m + 1, qs ++ [⟨some ⟨gn, 0, none⟩, cn, l2⟩], by go_num, rfl, by rw [List.length_append, QM.out]; rfl, by omega, by rw [NX.out, ← V.out]; simp [vals], O7.out, (D.out.trans (B3.out.mono D.out.size)).trans (((al1 w3 _).mono (by have := D.out.size; omega)).trans (K7.out.below (by have := D.out.size; omega) (by have := D.out.size; simp; omega)))⟩
          case measure => simp [intOf]; omega
        · have t1 : (z3 == (x : Int)) = false := by simpa using hyx
          have NX := Lib.hid (show Ob.outs (N : Int) (vals rs) (x + 1) = Ob.outs (N : Int) (vals rs) x from by
            show (if _ then _ else _) = _
            rw [if_neg (by rw [Y.out]; exact hyx)])
          clear hyx
          go_wp2
          go_roundw
          case rel => exact ⟨x + 1, A2, c2, m, qs, by go_num, rfl, QM.out, by omega, by rw [NX.out, V.out], (O.out.below B3.out (Nat.le_refl _)).wide (Nat.le_refl _) B3.out.size, D.out.trans (B3.out.mono D.out.size)⟩
          case measure => simp [intOf]; omega
      · obtain rfl : x = N := by omega
        have i1 : ¬ (x : Int) < (x : Int) := by omega
        go_wp2
        go_ret
        exact ⟨A2, c2, qs, by rw [QM.out]; rfl, O.out, V.out, D.out⟩
end Go.Proofs.Ytiibedpacnficaa
