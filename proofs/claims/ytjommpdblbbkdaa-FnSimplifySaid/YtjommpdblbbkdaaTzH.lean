/- What a relator says that a generator is: the specification's l04Solve. No condition but those that each theorem names. -/
import Derived.Test.YtjommpdblbbkdaaTzF
import Derived.Test.YtjommpdblbbkdaaTzG
namespace Go.Proofs.Ytjommpdblbbkdaa
open Go.RowKit

namespace Wd
/-- An append of nothing at a step of a region that draws its order. -/
theorem step_append_none {w : World} {ops : Array Oper} {o : Oper} {a : Act} {K : Act → World → Prop} {Q : Exit → Act → World → Prop} {E : Prop} (hgd : o.guard = none) (s x : Operand) (t e : TypeId)
    (ho : o.op = .call { callee := .builtin .append, args := #[s, x], argTypes := #[t, t] }) (i : TypeInfo) (ht : Try.prog.underlying t = some (.slice e)) (hi : Try.prog.info? e = some i)
    (b : Option Addr) (n cap : Nat) (hn : n ≤ cap) (hs : a.eval s = .slice b n cap) (A : Option Addr) (c : Nat) (hx : a.eval x = .slice A 0 c)
    (h : K (a.put o.dst (.slice b n cap)) w) : if Region.wanted o (yielded ops a.tmps) = true then Oper.wp Try.prog o a w K Q else E := by
  have hw : Region.wanted o (yielded ops a.tmps) = true := by simp [Region.wanted, hgd]
  rw [if_pos hw]
  have hr := run_append_nothing (P := Try.prog) w t t o.type e i ht hi b n cap hn (.slice A 0 c) ⟨.inl ⟨e, ht⟩, fun w' => by simp [Builtin.lenOf], by cases A <;> simp [Builtin.firstCells, loadCells, loadCellsFrom], by cases A <;> simp [Builtin.firstCells, loadCells, loadCellsFrom], by simp, by simp⟩
  unfold Oper.wp
  simp [execOp, ho, resolve, invoke, builtin, hs, hx, hr, Result.andThen]
  exact h
/-- A list, empty or not, is appended to a list of the call's own at a step of a region that draws its order. -/
theorem step_push_any {w : World} {ops : Array Oper} {o : Oper} {a : Act} {K : Act → World → Prop} {Q : Exit → Act → World → Prop} {E : Prop} (hgd : o.guard = none) (s x : Operand) (ho : o.op = .call { callee := .builtin .append, args := #[s, x], argTypes := #[34, 34] })
    (lo hi c B n m cm : Nat) (A A2 : Option Addr) (l zs : List Int) (hs : a.eval s = .slice A n c) (hown : Own w lo hi A n c l) (hx : a.eval x = .slice A2 m cm) (hc : Ints w B A2 m zs) (hlo : lo ≤ w.heap.size) (hhi : hi ≤ w.heap.size) (hlen : n + m ≤ 4194304)
    (h : ∀ A' c' w', Own w' lo w'.heap.size A' (n + m) c' (l ++ zs) → Kept lo hi w w' → K (a.put o.dst (.slice A' (n + m) c')) w') : if Region.wanted o (yielded ops a.tmps) = true then Oper.wp Try.prog o a w K Q else E := by
  obtain ⟨ti, hi0, hz0, hz1, hz2⟩ := info_parts info2
  rcases Nat.eq_zero_or_pos m with h0 | h0
  · subst h0
    refine step_append_none hgd s x 34 2 ho ti Try.underlying34 hi0 A n c (own_le hown) hs A2 cm hx ?_
    have e : zs = [] := List.length_eq_zero_iff.1 hc.1
    subst e
    have := h A c w (by rw [List.append_nil]; exact hown.wide (Nat.le_refl _) hhi) (Kept.refl _ _ _)
    exact this
  · have hl := hown.len
    have hzl := hc.1
    obtain ⟨b, off, rfl, hb, hcell⟩ := hc.2 h0
    refine step_append_lies w hgd s x 34 ho lo 2 ti _ 1 8 Try.underlying34 hi0 hz0 hz1 hz2 rfl (by decide) (.slice A n c) n (l.map (Value.int .i64)) hs hown.1 ⟨b, off, none⟩ m cm (zs.map (Value.int .i64)) hx (by simpa using hzl)
      (by
        intro j u hj
        rw [List.getElem?_map] at hj
        have hjl : j < zs.length := by
          rcases Nat.lt_or_ge j zs.length with h | h
          · exact h
          · rw [List.getElem?_eq_none h] at hj; simp at hj
        rw [List.getElem?_eq_getElem hjl] at hj
        simp at hj
        have := hcell j (by omega)
        rw [List.getD_eq_getElem?_getD, List.getElem?_eq_getElem hjl] at this
        subst hj
        rw [show (⟨b, off, none⟩ : Addr).add j = ⟨b, off + j, none⟩ from by unfold Addr.add; split <;> simp_all]
        simpa using this)
      (by intro u hu; obtain ⟨z, _, rfl⟩ := List.mem_map.1 hu; rfl) (by omega) (by unfold maxLen; omega) (by omega) hlo _ rfl ?_
    intro g' cap w' h1 hg hat hlt
    have hk : Kept lo hi w w' := kept_grown hg fun k hk => ⟨(hown.1.lt k hk).1, by
      cases A with
      | none => simp [Value.ownBlock] at hk
      | some p =>
        have h2 := hown.2 p rfl
        simp [Value.ownBlock] at hk
        omega⟩
    refine h (some ⟨g', 0, none⟩) cap w' ⟨?_, fun a ha => by cases ha; exact hlt⟩ hk
    rw [List.map_append]
    exact h1
end Wd

set_option maxRecDepth 100000 in
set_option maxHeartbeats 8000000 in
theorem solve_spec (g : Int) (A : Option Addr) (n c : Nat) (zs : List Int) (w : World) (h : Ints w w.heap.size A n zs) (hn : n ≤ 1048576) (hc : n ≤ c) (hm : c ≤ maxLen) (hg : 1 ≤ g) (hg' : g ≤ 1000) (ho : 0 < Wd.occ g zs) (hs : Wd.Sm zs) :
    Calls Try.prog 64 #[.slice A n c, .int .i64 g] w (ResLM w (Wd.solve g zs)) := by
  unfold maxLen at hm
  have hpl := Wd.place_lt ho
  rw [h.1] at hpl
  have AT := Lib.hid (Wd.place_at ho)
  have NO := Lib.hid (fun j (hj : j < Wd.place g zs) => Wd.place_no hj)
  have SO := Lib.hid (show Wd.solve g zs = (if zs.getD (Wd.place g zs) 0 = g then Wd.inv (Lau.cut zs (Wd.place g zs + 1) n ++ Lau.cut zs 0 (Wd.place g zs)) else Lau.cut zs (Wd.place g zs + 1) n ++ Lau.cut zs 0 (Wd.place g zs)) from by
    unfold Wd.solve Lau.cut
    rw [List.take_of_length_le (Nat.le_of_eq h.1), List.drop_zero])
  have SMR := Lib.hid (show Wd.Sm (Lau.cut zs (Wd.place g zs + 1) n ++ Lau.cut zs 0 (Wd.place g zs)) from (fun x hx => by
    rcases List.mem_append.1 hx with hx | hx
    · exact hs x (List.mem_of_mem_take (List.mem_of_mem_drop hx))
    · exact hs x (List.mem_of_mem_take (List.mem_of_mem_drop hx))))
  have H := Lib.hid h
  have hl := Lib.hid h.1
  have LEN := Lib.hid (show (Lau.cut zs (Wd.place g zs + 1) n ++ Lau.cut zs 0 (Wd.place g zs)).length = n - (Wd.place g zs + 1) + Wd.place g zs from by
    rw [List.length_append, Lau.cut_len (Nat.le_of_eq h.1.symm), Lau.cut_len (by rw [h.1]; omega)]
    omega)
  have S := Lib.hid hs
  have NG : IntKind.i64.wrap (-g) = -g := IntWalk.i64_in _ (by omega)
  obtain ⟨p, hp⟩ : ∃ p, Wd.place g zs = p := ⟨_, rfl⟩
  rw [hp] at hpl AT NO SO SMR LEN
  clear h ho hp hs
  go_enter Try.func64, Try.ntmps64
  go_wp2
  go_loopw [5] (fun x W => ∃ k : Nat, k ≤ p ∧ x = .int .i64 k ∧ Below w.heap.size w W) (fun x _ => n - (intOf x).toNat)
  case atStart => exact ⟨0, Nat.zero_le _, rfl, Below.refl _ _⟩
  case round =>
    obtain ⟨k, hk, rfl, hbel⟩ := hrel
    have D := Lib.hid hbel
    have hlt : k < n := by omega
    obtain ⟨b, off, z, rfl, hb, hz, hc'⟩ := (H.out.below D.out).at_z hlt
    have zs1 : w.heap.size ≤ wr.heap.size := hbel.size
    clear hbel
    by_cases he : k = p
    case neg =>
      have AZ := NO.out k (by omega)
      rw [hz] at AZ
      have t1 : (z != g) = true := by simp; omega
      have t2 : (z != -g) = true := by simp; omega
      clear hz AZ
      go_wp2
      go_roundw
      case rel => exact ⟨k + 1, by omega, by go_num, D.out⟩
      case measure => simp [intOf]; omega
    subst he
    have HX := Lib.hid (H.out.into D.out)
    have P2 := Lib.hid (Wd.ints_part HX.out (i := 0) (j := k) (by omega) (by omega))
    rw [Nat.add_zero, Nat.sub_zero] at P2
    have P1 := Lib.hid (Wd.ints_part HX.out (i := k + 1) (j := n) (by omega) (by omega))
    have P0 := Lib.hid (fun (A1 : Option Addr) (h0 : n = k + 1) => (show Ints wr wr.heap.size A1 0 (Lau.cut zs (k + 1) n) from by
      have e : Lau.cut zs (k + 1) n = [] := by rw [h0]; exact Lau.cut_none _ _
      rw [e]
      exact Wd.ints_nil _))
    have ATZ := Lib.hid AT.out
    rw [hz] at ATZ
    have Z := Lib.hid hz
    obtain ⟨q, hq⟩ : ∃ q, Lau.cut zs (k + 1) n ++ Lau.cut zs 0 k = q := ⟨_, rfl⟩
    have QQ := Lib.hid hq
    rw [hq] at SO SMR LEN
    rw [hz] at SO
    have i0 : (0 : Int) ≤ (k : Int) + 1 := by omega
    have LK := Lib.hid (fun (e : k + 1 = c) => (show q.length = k from by rw [LEN.out]; omega))
    have i6 : (k : Int) < (n : Int) := by omega
    have i1 : ((k : Int) + 1).toNat = k + 1 := by omega
    have i2 : IntKind.i64.wrap ((k : Int) + 1) = (k : Int) + 1 := IntWalk.i64_in _ (by omega)
    have i3 : (k : Int) + 1 ≤ (n : Int) := by omega
    have i4 : (k : Int) ≤ (c : Int) := by omega
    have i5 : (0 : Int) ≤ (k : Int) := by omega
    clear hz hq
    by_cases hcp : k + 1 = c
    · have PP := Lib.hid (P0.out (some ⟨b, off, none⟩) (by omega))
      rcases ATZ.out with hzg | hzg
      · have t1 : (z != g) = false := by simpa using hzg
        have t3 : (z == g) = true := by simpa using hzg
        have S1 := Lib.hid (show Wd.solve g zs = Wd.inv q from by rw [SO.out, if_pos hzg])
        clear hzg
        go_wp2_with fail
        go_region_law (first
          | (refine Wd.step_push_any (by rfl) _ _ (by rfl) wr.heap.size (wr.heap.size + 1) 0 wr.heap.size 0 0 0 (some ⟨wr.heap.size, 0, none⟩) (some ⟨b, off, none⟩) [] (Lau.cut zs (k + 1) n) (by rfl) (by exact Wd.own_nil wr) (by rfl) (by exact PP.out.below ((al1 wr _).drew)) (by simp) (by simp) (by omega) ?_; intro A7 c7 w7 h5 h6; have O7 := Lib.hid (show Own w7 wr.heap.size w7.heap.size A7 (0 + 0) c7 (Lau.cut zs (k + 1) n) from h5); have D7 := Lib.hid (((al1 wr _).drew).trans (h6.below (Nat.le_refl _) (by simp))); have s7 := D7.out.size; clear h5 h6)
          | (refine Wd.step_push_any (by rfl) _ _ (by rfl) wr.heap.size w7.heap.size c7 wr.heap.size (0 + 0) k c A7 (some ⟨b, off, none⟩) (Lau.cut zs (k + 1) n) (Lau.cut zs 0 k) (by rfl) (by exact O7.out) (by rfl) (by exact P2.out.below D7.out) (by omega) (Nat.le_refl _) (by omega) ?_; intro A8 c8 w8 h5 h6; have O8 := Lib.hid (show Own w8 wr.heap.size w8.heap.size A8 k c8 q from by rw [← QQ.out]; simpa using h5); have D8 := Lib.hid (D.out.trans ((D7.out.trans (h6.below (Nat.le_refl _) (by omega))).mono zs1)); have s8 := h6.size; have x8 := ((D7.out.trans (h6.below (Nat.le_refl _) (by omega))).cell (p := ⟨b, off + k, none⟩) (by dsimp only; omega)).trans hc'; clear h5 h6))
        all_goals
          go_wp2_with fail
          refine (invw_spec A8 _ c8 q _ (O8.out.ints) (by omega) SMR.out).mono ?_
          rintro e w3 ⟨R, t, rfl, hc3, hm3, hb3⟩
          have C3 := Lib.hid hc3
          have M3 := Lib.hid hm3
          have D3 := Lib.hid (D8.out.trans (hb3.mono (by omega)))
          clear hc3 hm3 hb3
          go_wp2
          go_ret
          rw [S1.out]
          exact ⟨R, t, rfl, C3.out, M3.out.wide (by omega) (Nat.le_refl _), D3.out⟩
      · have t1 : (z != g) = true := by simp; omega
        have t2 : (z != -g) = false := by simpa using hzg
        have t3 : (z == g) = false := by simp; omega
        have S1 := Lib.hid (show Wd.solve g zs = q from by rw [SO.out, if_neg (by omega)])
        clear hzg
        go_wp2_with fail
        go_region_law (first
          | (refine Wd.step_push_any (by rfl) _ _ (by rfl) wr.heap.size (wr.heap.size + 1) 0 wr.heap.size 0 0 0 (some ⟨wr.heap.size, 0, none⟩) (some ⟨b, off, none⟩) [] (Lau.cut zs (k + 1) n) (by rfl) (by exact Wd.own_nil wr) (by rfl) (by exact PP.out.below ((al1 wr _).drew)) (by simp) (by simp) (by omega) ?_; intro A7 c7 w7 h5 h6; have O7 := Lib.hid (show Own w7 wr.heap.size w7.heap.size A7 (0 + 0) c7 (Lau.cut zs (k + 1) n) from h5); have D7 := Lib.hid (((al1 wr _).drew).trans (h6.below (Nat.le_refl _) (by simp))); have s7 := D7.out.size; clear h5 h6)
          | (refine Wd.step_push_any (by rfl) _ _ (by rfl) wr.heap.size w7.heap.size c7 wr.heap.size (0 + 0) k c A7 (some ⟨b, off, none⟩) (Lau.cut zs (k + 1) n) (Lau.cut zs 0 k) (by rfl) (by exact O7.out) (by rfl) (by exact P2.out.below D7.out) (by omega) (Nat.le_refl _) (by omega) ?_; intro A8 c8 w8 h5 h6; have O8 := Lib.hid (show Own w8 wr.heap.size w8.heap.size A8 k c8 q from by rw [← QQ.out]; simpa using h5); have D8 := Lib.hid (D.out.trans ((D7.out.trans (h6.below (Nat.le_refl _) (by omega))).mono zs1)); have s8 := h6.size; have x8 := ((D7.out.trans (h6.below (Nat.le_refl _) (by omega))).cell (p := ⟨b, off + k, none⟩) (by dsimp only; omega)).trans hc'; clear h5 h6))
        all_goals
          go_wp2
          go_ret
          rw [S1.out]
          unfold ResLM
          rw [LK.out hcp]
          exact ⟨A8, c8, rfl, Wd.own_caps O8.out, O8.out.mine.wide (by omega) (Nat.le_refl _), D8.out⟩
    · have hcp2 : ¬ c = k + 1 := by omega
      have PP := P1
      rcases ATZ.out with hzg | hzg
      · have t1 : (z != g) = false := by simpa using hzg
        have t3 : (z == g) = true := by simpa using hzg
        have S1 := Lib.hid (show Wd.solve g zs = Wd.inv q from by rw [SO.out, if_pos hzg])
        clear hzg
        go_wp2_with fail
        go_region_law (first
          | (refine Wd.step_push_any (by rfl) _ _ (by rfl) wr.heap.size (wr.heap.size + 1) 0 wr.heap.size 0 (n - (k + 1)) (c - (k + 1)) (some ⟨wr.heap.size, 0, none⟩) (some ⟨b, off + (k + 1), none⟩) [] (Lau.cut zs (k + 1) n) (by rfl) (by exact Wd.own_nil wr) (by rfl) (by exact PP.out.below ((al1 wr _).drew)) (by simp) (by simp) (by omega) ?_; intro A7 c7 w7 h5 h6; have O7 := Lib.hid (show Own w7 wr.heap.size w7.heap.size A7 (n - (k + 1)) c7 (Lau.cut zs (k + 1) n) from by simpa using h5); have D7 := Lib.hid (((al1 wr _).drew).trans (h6.below (Nat.le_refl _) (by simp))); have s7 := D7.out.size; clear h5 h6)
          | (refine Wd.step_push_any (by rfl) _ _ (by rfl) wr.heap.size w7.heap.size c7 wr.heap.size (n - (k + 1)) k c A7 (some ⟨b, off, none⟩) (Lau.cut zs (k + 1) n) (Lau.cut zs 0 k) (by rfl) (by exact O7.out) (by rfl) (by exact P2.out.below D7.out) (by omega) (Nat.le_refl _) (by omega) ?_; intro A8 c8 w8 h5 h6; have O8 := Lib.hid (show Own w8 wr.heap.size w8.heap.size A8 (n - (k + 1) + k) c8 q from by rw [← QQ.out]; simpa using h5); have D8 := Lib.hid (D.out.trans ((D7.out.trans (h6.below (Nat.le_refl _) (by omega))).mono zs1)); have s8 := h6.size; have x8 := ((D7.out.trans (h6.below (Nat.le_refl _) (by omega))).cell (p := ⟨b, off + k, none⟩) (by dsimp only; omega)).trans hc'; clear h5 h6))
        all_goals
          go_wp2_with fail
          refine (invw_spec A8 _ c8 q _ (O8.out.ints) (by omega) SMR.out).mono ?_
          rintro e w3 ⟨R, t, rfl, hc3, hm3, hb3⟩
          have C3 := Lib.hid hc3
          have M3 := Lib.hid hm3
          have D3 := Lib.hid (D8.out.trans (hb3.mono (by omega)))
          clear hc3 hm3 hb3
          go_wp2
          go_ret
          rw [S1.out]
          exact ⟨R, t, rfl, C3.out, M3.out.wide (by omega) (Nat.le_refl _), D3.out⟩
      · have t1 : (z != g) = true := by simp; omega
        have t2 : (z != -g) = false := by simpa using hzg
        have t3 : (z == g) = false := by simp; omega
        have S1 := Lib.hid (show Wd.solve g zs = q from by rw [SO.out, if_neg (by omega)])
        clear hzg
        go_wp2_with fail
        go_region_law (first
          | (refine Wd.step_push_any (by rfl) _ _ (by rfl) wr.heap.size (wr.heap.size + 1) 0 wr.heap.size 0 (n - (k + 1)) (c - (k + 1)) (some ⟨wr.heap.size, 0, none⟩) (some ⟨b, off + (k + 1), none⟩) [] (Lau.cut zs (k + 1) n) (by rfl) (by exact Wd.own_nil wr) (by rfl) (by exact PP.out.below ((al1 wr _).drew)) (by simp) (by simp) (by omega) ?_; intro A7 c7 w7 h5 h6; have O7 := Lib.hid (show Own w7 wr.heap.size w7.heap.size A7 (n - (k + 1)) c7 (Lau.cut zs (k + 1) n) from by simpa using h5); have D7 := Lib.hid (((al1 wr _).drew).trans (h6.below (Nat.le_refl _) (by simp))); have s7 := D7.out.size; clear h5 h6)
          | (refine Wd.step_push_any (by rfl) _ _ (by rfl) wr.heap.size w7.heap.size c7 wr.heap.size (n - (k + 1)) k c A7 (some ⟨b, off, none⟩) (Lau.cut zs (k + 1) n) (Lau.cut zs 0 k) (by rfl) (by exact O7.out) (by rfl) (by exact P2.out.below D7.out) (by omega) (Nat.le_refl _) (by omega) ?_; intro A8 c8 w8 h5 h6; have O8 := Lib.hid (show Own w8 wr.heap.size w8.heap.size A8 (n - (k + 1) + k) c8 q from by rw [← QQ.out]; simpa using h5); have D8 := Lib.hid (D.out.trans ((D7.out.trans (h6.below (Nat.le_refl _) (by omega))).mono zs1)); have s8 := h6.size; have x8 := ((D7.out.trans (h6.below (Nat.le_refl _) (by omega))).cell (p := ⟨b, off + k, none⟩) (by dsimp only; omega)).trans hc'; clear h5 h6))
        all_goals
          go_wp2
          go_ret
          rw [S1.out]
          unfold ResLM
          rw [LEN.out]
          exact ⟨A8, c8, rfl, Wd.own_caps O8.out, O8.out.mine.wide (by omega) (Nat.le_refl _), D8.out⟩

end Go.Proofs.Ytjommpdblbbkdaa
