/- The program's maps of letters. No condition but those that each theorem names. -/
import Derived.Test.YtakokhfnllpahaaRpC
namespace Go.Proofs.Ytakokhfnllpahaa
open Go.RowKit

/-- A block of maps that is known whole. -/
def BlkM (W : World) (g : Nat) (d : List Int) : Prop := W.heap[g]? = some (.cells (d.map (Value.int .i64)).toArray 105 (0, 0))
theorem BlkM.lt {W : World} {g : Nat} {d : List Int} (h : BlkM W g d) : g < W.heap.size := by
  rcases Nat.lt_or_ge g W.heap.size with hlt | hge
  · exact hlt
  · unfold BlkM at h; rw [Array.getElem?_eq_none hge] at h; cases h
theorem BlkM.cell {W : World} {g : Nat} {d : List Int} (h : BlkM W g d) {i : Nat} (hi : i < d.length) : W.cell? ⟨g, i, none⟩ = some (.int .i64 (d.getD i 0)) := by
  rw [cell_of_row W g i _ _ (0, 0) h]
  simp [List.getElem?_eq_getElem hi]
theorem BlkM.frozen {W : World} {g : Nat} {d : List Int} (h : BlkM W g d) (i : Nat) : W.frozen? ⟨g, i, none⟩ = false := by
  unfold BlkM at h
  simp [World.frozen?, h]
theorem BlkM.set_ {W : World} {g : Nat} {d : List Int} (h : BlkM W g d) (i : Nat) (u : Int) : BlkM (W.setCell ⟨g, i, none⟩ (.int .i64 u)) g (d.set i u) := by
  unfold BlkM at h ⊢
  simp [World.setCell, Array.getElem?_modify, h]
theorem BlkM.below {W W' : World} {g : Nat} {d : List Int} {B : Nat} (h : BlkM W g d) (hb : Below B W W') (hg : g < B) : BlkM W' g d := (hb.block g hg).trans h

/-- The maps of the generator i + 1 and its inverse have the first k places of z; the other rows are as they were. -/
def Asg (i : Nat) (z : List Int) (k : Nat) (d d' : List Int) : Prop :=
  d'.length = d.length ∧ (∀ row x, row ≠ 25 + i → row ≠ 23 - i → x < 4 → d'.getD (row * 4 + x) 0 = d.getD (row * 4 + x) 0) ∧ ∀ x, x < k → d'.getD ((25 + i) * 4 + x) 0 = z.getD x 0 ∧ d'.getD ((23 - i) * 4 + (z.getD x 0).toNat) 0 = (x : Int)
theorem getD_set {d : List Int} {i j : Nat} {u : Int} : (d.set i u).getD j 0 = if i = j ∧ j < d.length then u else d.getD j 0 := by
  rw [List.getD_eq_getElem?_getD, List.getD_eq_getElem?_getD, List.getElem?_set]
  by_cases e : i = j
  · subst e
    by_cases h : i < d.length
    · simp [h]
    · simp [h]
  · simp [e]
theorem Asg.step {n : Int} {i k : Nat} {z d d' : List Int} (h : Asg i z k d d') (hz : Rp.Pm n z) (hn : n ≤ 4) (hi : i < 24) (hk : k < z.length) (hd : d.length = 196) :
    Asg i z (k + 1) d ((d'.set ((25 + i) * 4 + k) (z.getD k 0)).set ((23 - i) * 4 + (z.getD k 0).toNat) (k : Int)) := by
  obtain ⟨h0, h1, h2⟩ := h
  have hl := hz.1
  have hzk := (hz.2 k hk).1
  refine ⟨by rw [List.length_set, List.length_set, h0], fun row x hr1 hr2 hx => ?_, fun x hx => ?_⟩
  · rw [getD_set, if_neg (by omega), getD_set, if_neg (by omega)]
    exact h1 row x hr1 hr2 hx
  · have hxl : x < z.length := by omega
    have hzx := (hz.2 x hxl).1
    rw [getD_set, if_neg (by omega), getD_set, getD_set, getD_set]
    simp only [List.length_set]
    by_cases e : x = k
    · subst e
      rw [if_pos (by omega), if_pos (by omega)]
      exact ⟨rfl, rfl⟩
    · have hne : z.getD k 0 ≠ z.getD x 0 := fun e2 => e (hz.inj hxl hk e2.symm)
      rw [if_neg (by omega), if_neg (by omega), if_neg (by omega)]
      exact h2 x (by omega)

set_option maxHeartbeats 4000000 in
theorem assign_impl (b i : Nat) (n : Int) (A : Option Addr) (c : Nat) (z d : List Int) (B : Nat) (w : World) (hb : BlkM w b d) (hd : d.length = 196) (hA : Ints w B A z.length z) (hz : Rp.Pm n z) (hn : n ≤ 4) (hi : i < 24) (hB : B ≤ b) :
    Calls Try.prog 90 #[.pointer (some ⟨b, 0, none⟩), .int .i64 ((i : Int) + 1), .slice A z.length c] w fun e w' => e = .returned (.tuple #[]) ∧ ∃ d', BlkM w' b d' ∧ Kept b (b + 1) w w' ∧ Asg i z z.length d d' := by
  have HB := Lib.hid hb
  have HA := Lib.hid hA
  have HZ := Lib.hid hz
  have hzl : z.length ≤ 4 := by have := hz.1; omega
  have HD := Lib.hid hd
  clear hb hA hz
  go_enter Try.func90, Try.ntmps90
  go_wp2
  go_loopw [10] (fun x W => ∃ (k : Nat) (d' : List Int), k ≤ z.length ∧ x = .int .i64 k ∧ BlkM W b d' ∧ Kept b (b + 1) w W ∧ Asg i z k d d') (fun x _ => z.length - (intOf x).toNat)
  case atStart => exact ⟨0, d, Nat.zero_le _, rfl, HB.out, Kept.refl _ _ _, rfl, fun _ _ _ _ _ => rfl, fun x hx => by omega⟩
  case round =>
    obtain ⟨k, d', hk, rfl, hbk, hkp, has⟩ := hrel
    have BK := Lib.hid hbk
    have KP := Lib.hid hkp
    have AS := Lib.hid has
    clear hbk hkp has
    by_cases hlt : k < z.length
    · obtain ⟨b2, off2, v, rfl, hb2, hv, hc2⟩ := (HA.out.keep (fun p hp => World.cell?_of_block (KP.out.block p.block (by have := HB.out.lt; omega) (by omega)))).at_z hlt
      have hvb := (HZ.out.2 k hlt).1
      rw [hv] at hvb
      have hzn := HZ.out.1
      have hvb2 : v < 4 := by omega
      obtain ⟨y, rfl⟩ : ∃ y : Nat, v = y := ⟨v.toNat, by omega⟩
      have STEP := Lib.hid (AS.out.step HZ.out hn hi hlt HD.out)
      rw [hv, Int.toNat_natCast] at STEP
      have hl2 : d'.length = 196 := by rw [AS.out.1, HD.out]
      have e1 : IntKind.i64.wrap (24 + ((i : Int) + 1)) = 25 + (i : Int) := by rw [IntWalk.i64_in _ (by omega)]; omega
      have e2 : IntKind.i64.wrap (24 - ((i : Int) + 1)) = 23 - (i : Int) := by rw [IntWalk.i64_in _ (by omega)]; omega
      have c1 := BK.out.cell (i := (25 + i) * 4 + k) (by omega)
      have f1 := BK.out.frozen ((25 + i) * 4 + k)
      have c2 := (BK.out.set_ ((25 + i) * 4 + k) (y : Int)).cell (i := (23 - i) * 4 + y) (by rw [List.length_set]; omega)
      have f2 := (BK.out.set_ ((25 + i) * 4 + k) (y : Int)).frozen ((23 - i) * 4 + y)
      have i1 : (k : Int) < (z.length : Int) := by omega
      have i2 : (k : Int) < 4 := by omega
      have i3 : (y : Int) < 4 := by omega
      clear hv
      go_wp2
      go_roundw
      case rel => exact ⟨k + 1, _, by omega, by go_num, (BK.out.set_ _ _).set_ _ _, (KP.out.set_ (p := ⟨b, (25 + i) * 4 + k, none⟩) (Nat.le_refl _) (Nat.lt_succ_self _) _).set_ (p := ⟨b, (23 - i) * 4 + y, none⟩) (Nat.le_refl _) (Nat.lt_succ_self _) _, STEP.out⟩
      case measure => simp [intOf]; omega
    · have hkl : k = z.length := by omega
      have i1 : ¬ (k : Int) < (z.length : Int) := by omega
      have FIN := Lib.hid (show Asg i z z.length d d' from by rw [← hkl]; exact AS.out)
      clear hkl
      go_wp2
      go_end0
      exact ⟨rfl, d', BK.out, KP.out, FIN.out⟩

/-- The maps say how the letters of the first k permutations act. -/
def Maps (zss : List (List Int)) (k : Nat) (d : List Int) : Prop :=
  d.length = 196 ∧ ∀ i, i < k → ∀ x, x < (zss.getD i []).length → d.getD ((25 + i) * 4 + x) 0 = (zss.getD i []).getD x 0 ∧ d.getD ((23 - i) * 4 + ((zss.getD i []).getD x 0).toNat) 0 = (x : Int)
theorem Maps.next {n : Int} {zss : List (List Int)} {k : Nat} {d d' : List Int} (h : Maps zss k d) (hp : ∀ i, i < k → Rp.Pm n (zss.getD i [])) (hn : n ≤ 4) (hk : k < 24) (ha : Asg k (zss.getD k []) (zss.getD k []).length d d') : Maps zss (k + 1) d' := by
  refine ⟨by rw [ha.1]; exact h.1, fun i hi x hx => ?_⟩
  by_cases e : i = k
  · subst e
    exact ha.2.2 x hx
  · have hz := hp i (by omega)
    have hl := hz.1
    have hzx := (hz.2 x hx).1
    have h1 := h.2 i (by omega) x hx
    rw [ha.2.1 (25 + i) x (by omega) (by omega) (by omega), ha.2.1 (23 - i) _ (by omega) (by omega) (by omega)]
    exact h1
/-- What the maps say of a letter. -/
theorem Maps.act {n : Int} {zss : List (List Int)} {k : Nat} {d : List Int} (h : Maps zss k d) (hp : ∀ i, i < k → Rp.Pm n (zss.getD i [])) {g x : Int} (hg0 : g ≠ 0) (hg1 : -(k : Int) ≤ g) (hg2 : g ≤ k) (hk : k ≤ 24) (h0 : 0 ≤ x) (h1 : x < n) :
    d.getD ((24 + g).toNat * 4 + x.toNat) 0 = Rp.act zss g x := by
  obtain ⟨X, rfl⟩ : ∃ X : Nat, x = X := ⟨x.toNat, by omega⟩
  rw [Int.toNat_natCast]
  by_cases hs : 0 < g
  · obtain ⟨i, rfl⟩ : ∃ i : Nat, g = (i : Int) + 1 := ⟨(g - 1).toNat, by omega⟩
    have hz := hp i (by omega)
    have := (h.2 i (by omega) X (by have := hz.1; omega)).1
    unfold Rp.act
    rw [if_pos hs, show (24 + ((i : Int) + 1)).toNat = 25 + i by omega, show ((i : Int) + 1 - 1).toNat = i by omega, Int.toNat_natCast]
    exact this
  · obtain ⟨i, rfl⟩ : ∃ i : Nat, g = -((i : Int) + 1) := ⟨(-g - 1).toNat, by omega⟩
    have hz := hp i (by omega)
    have hm := hz.mem h0 h1
    have ha := Rp.at_lt hm
    have := (h.2 i (by omega) (Rp.at_ (zss.getD i []) (X : Int)) ha).2
    rw [Rp.at_val hm, Int.toNat_natCast] at this
    unfold Rp.act
    rw [if_neg hs, show (24 + -((i : Int) + 1)).toNat = 23 - i by omega, show (- -((i : Int) + 1) - 1).toNat = i by omega]
    exact this

set_option maxHeartbeats 8000000 in
theorem maps_impl (n : Int) (A : Option Addr) (c : Nat) (rs : List Rw) (w : World) (h : RdS w w.heap.size A rs) (hp : ∀ k, k < rs.length → Rp.Pm n (rs.getD k nilRw).zs) (hn : n ≤ 4) (hc : rs.length ≤ c) (hcm : c ≤ maxLen) (hl : rs.length ≤ 1048576) :
    Calls Try.prog 57 #[.slice A rs.length c] w fun e w' => e = .returned (.pointer (some ⟨w.heap.size, 0, none⟩)) ∧ ∃ d, BlkM w' w.heap.size d ∧ Maps (vals rs) (min rs.length 24) d ∧ Below w.heap.size w w' := by
  have H := Lib.hid h
  have P := Lib.hid hp
  unfold maxLen at hcm
  obtain ⟨m, hm⟩ : ∃ m, rs.length = m := ⟨_, rfl⟩
  have HM := Lib.hid hm
  rw [hm] at hc hl ⊢
  clear h hp hm
  go_enter Try.func57, Try.ntmps57
  go_upto_region 2 with fail
  obtain ⟨V, hV⟩ : ∃ V, V = w.alloc (Obj.cells Try.zeroCells105 105) := ⟨_, rfl⟩
  rw [← hV]
  have ZV := Lib.hid (show BlkM V w.heap.size (List.replicate 196 0) from by
    rw [hV]
    have h1 := heap_alloc_new w (Obj.cells Try.zeroCells105 105)
    have h2 : Try.zeroCells105 = ((List.replicate 196 (0 : Int)).map (Value.int .i64)).toArray := by kernel_rfl
    unfold BlkM
    rw [← h2]
    exact h1)
  have DV := Lib.hid (show Below w.heap.size w V from by rw [hV]; exact al1 _ _)
  clear hV
  by_cases hq : m ≤ 24
  · have i0 : (m : Int) ≤ 24 := by omega
    have i1 : (m : Int) ≤ (c : Int) := by omega
    go_wp2
    go_loopw [14] (fun x W => ∃ (k : Nat) (d : List Int), k ≤ m ∧ x = .int .i64 k ∧ BlkM W w.heap.size d ∧ Maps (vals rs) k d ∧ Below w.heap.size w W) (fun x _ => m - (intOf x).toNat)
    case atStart => exact ⟨0, _, Nat.zero_le _, rfl, ZV.out, ⟨List.length_replicate .., fun i hi => by omega⟩, DV.out⟩
    case round =>
      obtain ⟨k, d, hk, rfl, hbk, hmp, hbel⟩ := hrel
      have BK := Lib.hid hbk
      have MP := Lib.hid hmp
      have DB := Lib.hid hbel
      have bl := hbk.lt
      clear hbk hmp hbel
      by_cases hlt : k < m
      · obtain ⟨b, off, Ak, ck, zk, rfl, hb, hrk, hck, hkc, hkm, hki⟩ := (H.out.below DB.out).at_ (j := k) (by rw [HM.out]; omega)
        have hpk := P.out k (by rw [HM.out]; omega)
        rw [hrk] at hpk
        dsimp only at hpk
        have VK := Lib.hid (show (vals rs).getD k [] = zk from by rw [vals_get, hrk])
        have e3 : IntKind.i64.wrap ((k : Int) + 1) = (k : Int) + 1 := IntWalk.i64_in _ (by omega)
        have j1 : (k : Int) < (m : Int) := by omega
        have CA := Lib.hid (assign_impl w.heap.size k n Ak ck zk d w.heap.size wr BK.out MP.out.1 hki hpk hn (by omega) (Nat.le_refl _))
        have PP := Lib.hid (fun i (hi : i < k) => (show Rp.Pm n ((vals rs).getD i []) from by rw [vals_get]; exact P.out i (by rw [HM.out]; omega)))
        clear hrk hpk hkc hkm hki
        go_wp2_with fail
        refine CA.out.mono ?_
        rintro e w1 ⟨rfl, d', hb1, hk1, ha1⟩
        have B1 := Lib.hid hb1
        have M1 := Lib.hid (MP.out.next PP.out hn (by omega) (by rw [VK.out]; exact ha1))
        have D1 := Lib.hid (DB.out.trans (hk1.below (B := w.heap.size) (Nat.le_refl _) (by omega)))
        clear hb1 hk1 ha1
        go_wp2
        go_roundw
        case rel => exact ⟨k + 1, d', by omega, by go_num, B1.out, M1.out, D1.out⟩
        case measure => simp [intOf]; omega
      · have hkq : k = m := by omega
        have j1 : ¬ (k : Int) < (m : Int) := by omega
        have FIN := Lib.hid (show Maps (vals rs) (min m 24) d from by rw [show min m 24 = k by omega]; exact MP.out)
        have FIN2 := Lib.hid (show Maps (vals rs) m d from by rw [← hkq]; exact MP.out)
        clear hkq
        go_wp2
        go_ret
        first
          | exact ⟨rfl, d, BK.out, FIN.out, DB.out⟩
          | exact ⟨rfl, d, BK.out, FIN2.out, DB.out⟩
  · have i0 : ¬ (m : Int) ≤ 24 := by omega
    have i1 : (24 : Int) ≤ (c : Int) := by omega
    have i2 : (24 : Int) < (m : Int) := by omega
    go_wp2
    go_loopw [14] (fun x W => ∃ (k : Nat) (d : List Int), k ≤ 24 ∧ x = .int .i64 k ∧ BlkM W w.heap.size d ∧ Maps (vals rs) k d ∧ Below w.heap.size w W) (fun x _ => 24 - (intOf x).toNat)
    case atStart => exact ⟨0, _, Nat.zero_le _, rfl, ZV.out, ⟨List.length_replicate .., fun i hi => by omega⟩, DV.out⟩
    case round =>
      obtain ⟨k, d, hk, rfl, hbk, hmp, hbel⟩ := hrel
      have BK := Lib.hid hbk
      have MP := Lib.hid hmp
      have DB := Lib.hid hbel
      have bl := hbk.lt
      clear hbk hmp hbel
      by_cases hlt : k < 24
      · obtain ⟨b, off, Ak, ck, zk, rfl, hb, hrk, hck, hkc, hkm, hki⟩ := (H.out.below DB.out).at_ (j := k) (by rw [HM.out]; omega)
        have hpk := P.out k (by rw [HM.out]; omega)
        rw [hrk] at hpk
        dsimp only at hpk
        have VK := Lib.hid (show (vals rs).getD k [] = zk from by rw [vals_get, hrk])
        have e3 : IntKind.i64.wrap ((k : Int) + 1) = (k : Int) + 1 := IntWalk.i64_in _ (by omega)
        have j1 : (k : Int) < 24 := by omega
        have CA := Lib.hid (assign_impl w.heap.size k n Ak ck zk d w.heap.size wr BK.out MP.out.1 hki hpk hn (by omega) (Nat.le_refl _))
        have PP := Lib.hid (fun i (hi : i < k) => (show Rp.Pm n ((vals rs).getD i []) from by rw [vals_get]; exact P.out i (by rw [HM.out]; omega)))
        clear hrk hpk hkc hkm hki
        go_wp2_with fail
        refine CA.out.mono ?_
        rintro e w1 ⟨rfl, d', hb1, hk1, ha1⟩
        have B1 := Lib.hid hb1
        have M1 := Lib.hid (MP.out.next PP.out hn (by omega) (by rw [VK.out]; exact ha1))
        have D1 := Lib.hid (DB.out.trans (hk1.below (B := w.heap.size) (Nat.le_refl _) (by omega)))
        clear hb1 hk1 ha1
        go_wp2
        go_roundw
        case rel => exact ⟨k + 1, d', by omega, by go_num, B1.out, M1.out, D1.out⟩
        case measure => simp [intOf]; omega
      · have hkq : k = 24 := by omega
        have j1 : ¬ (k : Int) < 24 := by omega
        have FIN := Lib.hid (show Maps (vals rs) (min m 24) d from by rw [show min m 24 = k by omega]; exact MP.out)
        have FIN2 := Lib.hid (show Maps (vals rs) 24 d from by rw [← hkq]; exact MP.out)
        clear hkq
        go_wp2
        go_ret
        first
          | exact ⟨rfl, d, BK.out, FIN.out, DB.out⟩
          | exact ⟨rfl, d, BK.out, FIN2.out, DB.out⟩

set_option maxHeartbeats 2000000 in
theorem letter_impl (b k : Nat) (n : Int) (zss : List (List Int)) (d : List Int) (g x : Int) (w : World) (hb : BlkM w b d) (hm : Maps zss k d) (hp : ∀ i, i < k → Rp.Pm n (zss.getD i [])) (hn : n ≤ 4) (hg0 : g ≠ 0) (hg1 : -(k : Int) ≤ g) (hg2 : g ≤ k) (hk : k ≤ 24) (h0 : 0 ≤ x) (h1 : x < n) :
    Calls Try.prog 93 #[.pointer (some ⟨b, 0, none⟩), .int .i64 x, .int .i64 g] w fun e w' => e = .returned (.int .i64 (Rp.act zss g x)) ∧ w = w' := by
  have AC := hm.act hp hg0 hg1 hg2 hk h0 h1
  obtain ⟨X, rfl⟩ : ∃ X : Nat, x = X := ⟨x.toNat, by omega⟩
  obtain ⟨G, hG⟩ : ∃ G : Nat, (24 + g).toNat = G := ⟨_, rfl⟩
  have e1 : IntKind.i64.wrap (24 + g) = (G : Int) := by rw [IntWalk.i64_in _ (by omega)]; omega
  rw [hG, Int.toNat_natCast] at AC
  have hl := hm.1
  have c1 := hb.cell (i := G * 4 + X) (by omega)
  rw [AC] at c1
  have i0 : (0 : Int) ≤ (G : Int) := by omega
  have i1 : (G : Int) < 49 := by omega
  have i2 : (X : Int) < 4 := by omega
  have i3 : (0 : Int) ≤ (X : Int) := by omega
  obtain ⟨v, hv⟩ : ∃ v, Rp.act zss g (X : Int) = v := ⟨_, rfl⟩
  rw [hv] at c1 ⊢
  clear AC hG hv hb hm hp hl
  go_enter Try.func93, Try.ntmps93
  go_wp2
  go_ret
  exact ⟨rfl, rfl⟩

set_option maxHeartbeats 2000000 in
theorem word_impl (b k : Nat) (n : Int) (zss : List (List Int)) (d : List Int) (Aw : Option Addr) (nw cw : Nat) (ws : List Int) (x : Int) (B : Nat) (w : World) (hb : BlkM w b d) (hm : Maps zss k d) (hkl : k ≤ zss.length) (hp : ∀ z ∈ zss, Rp.Pm n z) (hn : n ≤ 4) (hk : k ≤ 24) (hw : Ints w B Aw nw ws) (hwn : nw ≤ 1048576) (hf : Rp.Fits k ws) (h0 : 0 ≤ x) (h1 : x < n) :
    Calls Try.prog 69 #[.pointer (some ⟨b, 0, none⟩), .int .i64 x, .slice Aw nw cw] w fun e w' => e = .returned (.int .i64 (Rp.run zss ws x)) ∧ w = w' := by
  have HL := Lib.hid hw.1
  have HW := Lib.hid hw
  have F := Lib.hid hf
  have FZ := Lib.hid (show Rp.Fits zss.length ws from fun g hg => by have := hf g hg; omega)
  have P := Lib.hid hp
  have LS := Lib.hid (fun (g y : Int) (a1 : g ≠ 0) (a2 : -(k : Int) ≤ g) (a3 : g ≤ k) (a5 : 0 ≤ y) (a6 : y < n) => letter_impl b k n zss d g y w hb hm (fun i hi => hp _ (by rw [List.getD_eq_getElem?_getD, List.getElem?_eq_getElem (by omega)]; exact List.getElem_mem _)) hn a1 a2 a3 hk a5 a6)
  clear hw hf hb hm hp
  go_enter Try.func69, Try.ntmps69
  go_wp2
  go_loop [11, 1] (fun i y => ∃ (j : Nat), j ≤ nw ∧ i = .int .i64 j ∧ y = .int .i64 (Rp.run zss (ws.take j) x)) (fun i _ => nw - (intOf i).toNat)
  case atStart => exact ⟨0, Nat.zero_le _, rfl, rfl⟩
  case round =>
    obtain ⟨j, hj, rfl, rfl⟩ := hrel
    have hin := Rp.run_inside P.out (FZ.out.take j) h0 h1
    obtain ⟨y, hy⟩ : ∃ y, Rp.run zss (ws.take j) x = y := ⟨_, rfl⟩
    have HY := Lib.hid hy
    rw [hy] at hin ⊢
    have HIN := Lib.hid hin
    clear hy hin
    by_cases hlt : j < nw
    · obtain ⟨b2, off, g, rfl, hb2, hz, hck⟩ := HW.out.at_z hlt
      have hmem : g ∈ ws := by
        rw [← hz, List.getD_eq_getElem?_getD, List.getElem?_eq_getElem (by rw [HL.out]; exact hlt)]
        exact List.getElem_mem _
      have FG := Lib.hid (F.out g hmem)
      have NX := Lib.hid (show Rp.run zss (ws.take (j + 1)) x = Rp.act zss g y from by
        rw [Wd.take_snoc ws (by rw [HL.out]; exact hlt), Rp.run_snoc, HY.out, hz])
      clear hmem hz
      go_wp2_with fail
      refine (LS.out g y FG.out.1 FG.out.2.1 FG.out.2.2 HIN.out.1 HIN.out.2).mono ?_
      rintro e w1 ⟨rfl, rfl⟩
      go_wp2
      go_round
      case rel => exact ⟨j + 1, by omega, by go_num, by rw [NX.out]⟩
      case measure => simp [intOf]; omega
    · obtain rfl : j = nw := by omega
      have TA := Lib.hid (show y = Rp.run zss ws x from by rw [← HY.out, List.take_of_length_le (Nat.le_of_eq HL.out)])
      go_wp2
      go_ret
      exact ⟨congrArg (fun t => Ending.returned (.int .i64 t)) TA.out, rfl⟩

set_option maxHeartbeats 4000000 in
theorem trivial_impl (b k N : Nat) (zss : List (List Int)) (d : List Int) (P : Option Addr) (cp : Nat) (ps : List Rw) (B : Nat) (w : World) (hps : RdS w B P ps) (hb : BlkM w b d) (hm : Maps zss k d) (hkl : k ≤ zss.length) (hp : ∀ z ∈ zss, Rp.Pm (N : Int) z) (hn : N ≤ 4) (hk : k ≤ 24) (hf : ∀ j, j < ps.length → Rp.Fits k (ps.getD j nilRw).zs ∧ (ps.getD j nilRw).zs.length ≤ 120) (hpl : ps.length ≤ 1048576) :
    Calls Try.prog 58 #[.pointer (some ⟨b, 0, none⟩), .int .i64 N, .slice P ps.length cp] w fun e w' => e = .returned (.bool (Rp.trivial N zss (vals ps))) ∧ w = w' := by
  have MV := Lib.hid (fun (j : Nat) (hj : j < ps.length) (Aw : Option Addr) (cw : Nat) (x : Int) (hI : Ints w B Aw (ps.getD j nilRw).zs.length (ps.getD j nilRw).zs) (a1 : 0 ≤ x) (a2 : x < (N : Int)) => word_impl b k N zss d Aw (ps.getD j nilRw).zs.length cw (ps.getD j nilRw).zs x B w hb hm hkl hp (by omega) hk hI (by have := (hf j hj).2; omega) (hf j hj).1 a1 a2)
  have HP := Lib.hid hps
  obtain ⟨m, hmm⟩ : ∃ m, ps.length = m := ⟨_, rfl⟩
  have HM := Lib.hid hmm
  rw [hmm] at hpl MV ⊢
  clear hps hf hmm hb hm hp
  go_enter Try.func58, Try.ntmps58
  go_wp2
  go_loop [12] (fun i => ∃ j : Nat, j ≤ m ∧ i = .int .i64 j ∧ (∀ l, l < j → ∀ x, x < N → Rp.run zss (ps.getD l nilRw).zs (x : Int) = (x : Int))) (fun i => m - (intOf i).toNat)
  case atStart => exact ⟨0, Nat.zero_le _, rfl, fun j hj => by omega⟩
  case round =>
    obtain ⟨j, hj, rfl, hR⟩ := hrel
    have RR := Lib.hid hR
    clear hR
    by_cases hlt : j < m
    case neg =>
      have hjm : j = m := by omega
      have i1 : ¬ (j : Int) < (m : Int) := by omega
      have YES := Lib.hid (show Rp.trivial (N : Int) zss (vals ps) = true from Rp.trivial_vals.2 (by rw [HM.out, Int.toNat_natCast]; exact fun l hl => RR.out l (by omega)))
      clear hjm
      go_wp2
      go_ret
      exact ⟨ret_b YES.out, rfl⟩
    · obtain ⟨b2, off, Ak, ck, zk, rfl, hb2, hrk, hck, hkc, hkm, hki⟩ := HP.out.at_ (j := j) (by rw [HM.out]; exact hlt)
      have ZK := Lib.hid hrk
      have MK := Lib.hid (MV.out j hlt Ak ck)
      rw [hrk] at MK
      dsimp only at MK
      have i1 : (j : Int) < (m : Int) := by omega
      have KI := Lib.hid hki
      clear hrk hkc hkm hki
      go_wp2
      go_loop [17] (fun i => ∃ x : Nat, x ≤ N ∧ i = .int .i64 x ∧ (∀ y, y < x → Rp.run zss zk (y : Int) = (y : Int))) (fun i => N - (intOf i).toNat)
      case atStart => exact ⟨0, Nat.zero_le _, rfl, fun y hy => by omega⟩
      case round =>
        obtain ⟨x, hx, rfl, hR2⟩ := hrel
        have R2 := Lib.hid hR2
        clear hR2
        by_cases hlx : x < N
        · have j1 : (x : Int) < (N : Int) := by omega
          have MX := Lib.hid (MK.out (x : Int) KI.out (by omega) j1)
          by_cases e : Rp.run zss zk (x : Int) = (x : Int)
          · have NX := Lib.hid (show ∀ y, y < x + 1 → Rp.run zss zk (y : Int) = (y : Int) from fun y hy => by
              by_cases e2 : y = x
              · rw [e2]; exact e
              · exact R2.out y (by omega))
            rw [e] at MX
            clear e
            have t0 : ((x : Int) != (x : Int)) = false := by simp
            go_wp2_with fail
            refine MX.out.mono ?_
            rintro e w1 ⟨rfl, rfl⟩
            go_wp2
            go_round
            case rel => exact ⟨x + 1, by omega, by go_num, NX.out⟩
            case measure => simp [intOf]; omega
          · have NO := Lib.hid (show Rp.trivial (N : Int) zss (vals ps) = false from by
              rw [Bool.eq_false_iff]
              intro h1
              have := Rp.trivial_vals.1 h1 j (by rw [HM.out]; exact hlt) x (by rw [Int.toNat_natCast]; exact hlx)
              rw [ZK.out] at this
              exact e this)
            obtain ⟨v, hv⟩ : ∃ v, Rp.run zss zk (x : Int) = v := ⟨_, rfl⟩
            rw [hv] at MX e
            have t0 : (v != (x : Int)) = true := by simpa using e
            clear hv e
            go_wp2_with fail
            refine MX.out.mono ?_
            rintro e w1 ⟨rfl, rfl⟩
            go_wp2
            go_ret
            exact ⟨ret_b NO.out, rfl⟩
        · have hxn : x = N := by omega
          have j1 : ¬ (x : Int) < (N : Int) := by omega
          have NX := Lib.hid (show ∀ l, l < j + 1 → ∀ x, x < N → Rp.run zss (ps.getD l nilRw).zs (x : Int) = (x : Int) from fun l hl y hy => by
            by_cases e2 : l = j
            · rw [e2, ZK.out]; exact R2.out y (by omega)
            · exact RR.out l (by omega) y hy)
          clear hxn
          go_wp2
          go_round
          case rel => exact ⟨j + 1, by omega, by go_num, NX.out⟩
          case measure => simp [intOf]; omega

end Go.Proofs.Ytakokhfnllpahaa
