/- The program's IsTriangulation. No condition but those that each theorem names. -/
import Derived.Test.YtjendlfophdfeaaDoorFcI
import Derived.RegionIn
namespace Go.Proofs.YtjendlfophdfeaaDoor
open Go.RowKit Go.Shelf
namespace Fc
attribute [local go_sem] Oper.semAt_some

theorem undrew2 {w W : World} (h : Below w.drew.heap.size w.drew W) : Below w.heap.size w W := undrew h

set_option maxRecDepth 100000 in
set_option maxHeartbeats 8000000 in
theorem isTri_implT (A : Option Addr) (n c : Nat) (T : List (List Int)) (w : World) (h : RdT w w.heap.size A n T) (hv : Vs w) (hn : n ≤ 1048576) :
    Calls Tryd.prog 31 #[.agg #[.slice A n c]] w fun e w' => e = .returned (.bool (decide (Tr.Is T))) ∧ Below w.heap.size w w' := by
  have h0 := hv.pos
  have HT := Lib.hid h
  have LN := Lib.hid h.len
  have HV := Lib.hid hv
  clear h hv
  refine (callsIn_wide (n := 5)).1 ?_
  refine callsIn_of_wp_marks Tryd.func31 rfl trivial ?_ rfl
  simp only [Tryd.ntmps31, List.size_toArray, List.length_cons, List.length_nil, Nat.reduceAdd, Nat.reduceSub, Array.replicate_succ, Array.replicate_zero, List.push_toArray, List.append_toArray, List.nil_append, List.cons_append]
  obtain ⟨U, hU⟩ : ∃ U, U = ((w.alloc (Obj.cells #[.slice A n c] 29)).alloc (Obj.cells #[.bool false] 4)) := ⟨_, rfl⟩
  have hB : Below w.heap.size w U := by rw [hU]; exact al2 _ _ _
  have z : w.heap.size + 1 < U.heap.size := by rw [hU]; simp
  have k0 : U.cell? ⟨w.heap.size, 0, none⟩ = some (.slice A n c) := by rw [hU]; simp [go_sem]
  have k1 : U.cell? ⟨w.heap.size + 1, 0, none⟩ = some (.bool false) := by rw [hU]; simp [go_sem]
  have kf : U.frozen? ⟨w.heap.size + 1, 0, none⟩ = false := by rw [hU]; simp [go_sem]
  have RT := Lib.hid (HT.out.below hB)
  have DU := Lib.hid hB
  clear hB
  by_cases h8 : n ≤ 8
  case neg =>
    have R := Lib.hid (show decide (Tr.Is T) = false from decide_eq_false fun e => h8 (by rw [← LN.out]; exact e.1))
    have t1 : (8 : Int) < (n : Int) := by omega
    gi_wp2
    refine ⟨trivial, ?_⟩
    rw [← hU]
    clear hU
    gi_wp2
    refine leave0 (v := .bool false) (by simp [results, Tryd.results31, go_sem, k1]) ⟨by rw [R.out], DU.out.setCell (by dsimp only; omega) _⟩
  have t1 : ¬ (8 : Int) < (n : Int) := by omega
  have DI := Lib.hid (fun (W : World) (hb : Below w.heap.size w W) => described_impl A n c T W (HT.out.into hb) (HV.out.below hb h0.1) hn)
  gi_wp2
  rw [← hU]
  clear hU
  refine ⟨trivial, ?_⟩
  refine (callsIn_wide.2 (DI.out U DU.out)).mono ?_
  rintro e X ⟨rfl, hb6⟩
  have k0 := (hb6.cell (p := ⟨w.heap.size, 0, none⟩) (by dsimp only; omega)).trans k0
  have k1 := (hb6.cell (p := ⟨w.heap.size + 1, 0, none⟩) (by dsimp only; omega)).trans k1
  have kf := (hb6.frozen (p := ⟨w.heap.size + 1, 0, none⟩) (by dsimp only; omega)).trans kf
  have zX : U.heap.size ≤ X.heap.size := hb6.size
  have RX := Lib.hid (RT.out.below (hb6.mono (by omega)))
  have DX := Lib.hid (DU.out.trans (hb6.mono (by omega)))
  clear hb6 RT DU DI
  by_cases hok : AllOk T
  case neg =>
    rw [decide_eq_false hok]
    have R := Lib.hid (show decide (Tr.Is T) = false from decide_eq_false fun e => hok ⟨e.2.1, fun a ha f hf => (e.2.2 a ha f hf).ok⟩)
    gi_wp2
    refine leave0 (v := .bool false) (by simp [results, Tryd.results31, go_sem, k1]) ⟨by rw [R.out], DX.out.setCell (by dsimp only; omega) _⟩
  rw [decide_eq_true hok]
  have H4 := Lib.hid hok.1
  have OKS := Lib.hid (show ∀ a, a < n → ∀ f, f < 4 → Tr.Ok T a f from fun a ha f hf => hok.2 a (by rw [LN.out]; exact ha) f hf)
  have DV := Lib.hid (DX.out.alloc (by omega) (Obj.cells #[.slice A n c] 29))
  have KB := Lib.hid (cell_one X (.slice A n c) 29)
  have A0 := Lib.hid (cell_al (Obj.cells #[.slice A n c] 29) k0)
  have A1 := Lib.hid (cell_al (Obj.cells #[.slice A n c] 29) k1)
  have A2 := Lib.hid (frozen_al (Obj.cells #[.slice A n c] 29) k1 kf)
  have RV := Lib.hid (RX.out.below (((Below.refl w.heap.size X)).alloc (by omega) (Obj.cells #[.slice A n c] 29)))
  clear hok
  gi_wp2_with (refine ⟨trivial, ?_⟩; gi_at_call 69; refine (facesOf_in Fence.wide _ trivial rfl _ _ _ _).mono ?_; rintro e w' ⟨rfl, rfl⟩)
  obtain ⟨V, hV⟩ : ∃ V, V = X.alloc (Obj.cells #[.slice A n c] 29) := ⟨_, rfl⟩
  have zV : X.heap.size < V.heap.size := by rw [hV]; simp
  rw [← hV] at DV KB A0 A1 A2 RV ⊢
  clear hV RX
  refine rangeB (by omega) X.heap.size w.heap.size c A T H4.out hn zV (by omega) rfl rfl KB.out RV.out
    (fun pre W => ((∀ x ∈ pre, Tr.Good T (x.1 / 4) (x.1 % 4)) ∧ W.cell? ⟨w.heap.size, 0, none⟩ = some (.slice A n c) ∧ W.cell? ⟨w.heap.size + 1, 0, none⟩ = some (.bool false) ∧ W.frozen? ⟨w.heap.size + 1, 0, none⟩ = false) ∧ Below w.heap.size w W)
    (fun c pre W => (c = .ret ∧ (∃ x ∈ pre, ¬ Tr.Good T (x.1 / 4) (x.1 % 4)) ∧ W.cell? ⟨w.heap.size + 1, 0, none⟩ = some (.bool false)) ∧ Below w.heap.size w W)
    (OwnFrom.and (Own.from (fun s A B row hs hg hr => ⟨hs.1, cell_kept hs.2.1 hg hr, cell_kept hs.2.2.1 hg hr, (frozen_kept hs.2.2.1 hg hr).trans hs.2.2.2⟩) _) (ownFrom_below (Nat.le_refl _) (by omega)))
    (fun c => OwnFrom.and (Own.from (fun s A B row hs hg hr => ⟨hs.1, hs.2.1, cell_kept hs.2.2 hg hr⟩) _) (ownFrom_below (Nat.le_refl _) (by omega)))
    ⟨⟨by simp, A0.out, A1.out, A2.out⟩, DV.out⟩
    (fun x Bx W => (W.cell? ⟨Bx, 0, none⟩ = some (.int .i64 ((x.1 : Int) / 4)) ∧ W.cell? ⟨Bx, 1, none⟩ = some (.int .i64 ((x.1 : Int) % 4))) ∧ W.cell? ⟨Bx + 1, 0, none⟩ = some (.int .i64 (Tr.tt T (x.1 / 4) (x.1 % 4))) ∧ W.cell? ⟨Bx + 1, 1, none⟩ = some (.int .i64 (Tr.pp T (x.1 / 4) (x.1 % 4))))
    (fun x Bx => Own.from (fun s X Y row hs hg hr => ⟨⟨cell_kept hs.1.1 hg hr, cell_kept hs.1.2 hg hr⟩, cell_kept hs.2.1 hg hr, cell_kept hs.2.2 hg hr⟩) _) ?acts ?assign ?body ?done ?stop
  case assign =>
    rintro l pre x W K ⟨⟨hp, b0, b1, b2⟩, hB⟩ hK
    dsimp only [encF]
    have zW : w.heap.size ≤ W.heap.size := hB.size
    gi_wp2
    obtain ⟨Y, hY⟩ : ∃ Y, Y = (W.alloc (Obj.cells #[.int .i64 ((x.1 : Int) / 4), .int .i64 ((x.1 : Int) % 4)] 94)).alloc (Obj.cells #[.int .i64 (Tr.tt T (x.1 / 4) (x.1 % 4)), .int .i64 (Tr.pp T (x.1 / 4) (x.1 % 4))] 83) := ⟨_, rfl⟩
    have m0 : Y.cell? ⟨W.heap.size, 0, none⟩ = some (.int .i64 ((x.1 : Int) / 4)) := by rw [hY]; simp [go_sem]
    have m1 : Y.cell? ⟨W.heap.size, 1, none⟩ = some (.int .i64 ((x.1 : Int) % 4)) := by rw [hY]; simp [go_sem]
    have n0 : Y.cell? ⟨W.heap.size + 1, 0, none⟩ = some (.int .i64 (Tr.tt T (x.1 / 4) (x.1 % 4))) := by rw [hY]; simp [go_sem]
    have n1 : Y.cell? ⟨W.heap.size + 1, 1, none⟩ = some (.int .i64 (Tr.pp T (x.1 / 4) (x.1 % 4))) := by rw [hY]; simp [go_sem]
    have hA : Below w.heap.size W Y := by rw [hY]; exact ((Below.refl _ W).alloc zW _).alloc (by simp; omega) _
    have hF : KeepsFrom V.heap.size W Y := by rw [hY]; exact ((KeepsOthers.alloc W _).trans (KeepsOthers.alloc _ _)).from _
    have hI : Y.cell? ⟨w.heap.size, 0, none⟩ = some (.slice A n c) := by rw [hY]; exact cell_al _ (cell_al _ b0)
    have hI1 : Y.cell? ⟨w.heap.size + 1, 0, none⟩ = some (.bool false) := by rw [hY]; exact cell_al _ (cell_al _ b1)
    have hI2 : Y.frozen? ⟨w.heap.size + 1, 0, none⟩ = false := by rw [hY]; exact frozen_al _ (cell_al _ b1) (frozen_al _ b1 b2)
    rw [← hY]
    clear hY
    revert m0 m1 n0 n1
    generalize W.heap.size = Bx
    intro m0 m1 n0 n1
    exact hK Bx _ hF hA ⟨⟨hp, hI, hI1, hI2⟩, hB.trans hA⟩ ⟨⟨m0, m1⟩, n0, n1⟩
  case body =>
    rintro l pre x Bx W hl ⟨r, hr⟩ ⟨⟨hp, b0, b1, b2⟩, hB⟩ ⟨⟨m0, m1⟩, c0, c1⟩
    have xlt := x.2
    obtain ⟨a, hae⟩ : ∃ a, x.1 / 4 = a := ⟨_, rfl⟩
    obtain ⟨f, hfe⟩ : ∃ f, x.1 % 4 = f := ⟨_, rfl⟩
    have ha : a < n := by omega
    have hf : f < 4 := by omega
    have ia : ((x.1 : Int) / 4) = (a : Int) := by omega
    have jf : ((x.1 : Int) % 4) = (f : Int) := by omega
    rw [ia] at m0
    rw [jf] at m1
    rw [hae, hfe] at c0 c1
    have GO := Lib.hid (show Tr.Good T a f → ∀ y ∈ pre ++ [x], Tr.Good T (y.1 / 4) (y.1 % 4) from fun g y hy => (List.mem_append.1 hy).elim (hp y) (fun e => by simp at e; rw [e, hae, hfe]; exact g))
    have NG := Lib.hid (show ¬ Tr.Good T a f → ∃ y ∈ pre ++ [x], ¬ Tr.Good T (y.1 / 4) (y.1 % 4) from fun g => ⟨x, by simp, by rw [hae, hfe]; exact g⟩)
    have zW : w.heap.size ≤ W.heap.size := hB.size
    have zW1 : w.heap.size + 1 < W.heap.size := World.block_lt_of_cell? W _ b1
    have zB : Bx + 1 < W.heap.size := World.block_lt_of_cell? W _ c0
    obtain ⟨v0, v1⟩ := HV.out.2.below hB h0.2
    have OKF := Lib.hid (OKS.out a ha f hf)
    have hmx : Tryd.prog.follows .mixedOrders = true := by kernel_rfl
    have hd : 1 ≤ 5 - 1 - 1 := by omega
    clear hp ia jf hae hfe xlt
    by_cases hbd : Tr.Bd T a f
    · have G := Lib.hid (GO.out (.inl hbd))
      obtain ⟨h1, h2⟩ := hbd
      rw [h1] at c0
      rw [h2] at c1
      clear h1 h2
      gi_wp2
      gi_region_with_o (refine ⟨trivial, ?_⟩)
      all_goals gi_wp2
      all_goals (try go_bits)
      all_goals exact ⟨(KeepsOthers.drew _).from _, (Below.refl _ W).drew, ⟨G.out, b0, b1, b2⟩, hB.drew⟩
    · rcases OKF.out with e | ⟨⟨t0, t1⟩, p0, p1⟩
      · exact absurd e hbd
      obtain ⟨tb, htb⟩ : ∃ tb : Nat, Tr.tt T a f = tb := ⟨(Tr.tt T a f).toNat, by omega⟩
      obtain ⟨p, hpp⟩ : ∃ p : Nat, Tr.pp T a f = p := ⟨(Tr.pp T a f).toNat, by omega⟩
      have htn : tb < n := by have := LN.out; omega
      have hp24 : p < 24 := by omega
      obtain ⟨x0, x1, x2, x3, hx4, hx4b⟩ := im_four p hp24
      obtain ⟨g, hgv, hg4⟩ : ∃ g : Nat, (P4.im p).getD f 0 = (g : Int) ∧ g < 4 := ⟨((P4.im p).getD f 0).toNat, by have := P4.im_in p hp24 f hf; omega, by have := P4.im_in p hp24 f hf; omega⟩
      obtain ⟨q, hqv, hq24⟩ : ∃ q : Nat, Tr.pp T tb g = (q : Int) ∧ q < 24 := by
        rcases OKS.out tb htn g hg4 with e | e
        · exact ⟨0, e.2, by omega⟩
        · exact ⟨(Tr.pp T tb g).toNat, by omega, by omega⟩
      have MT : Tr.mt T a f = g := by unfold Tr.mt; rw [hpp, Int.toNat_natCast, hgv]; omega
      have BKV : Tr.Bk T a f ↔ (Tr.tt T tb g = (a : Int) ∧ q = P4.ivt p) ∧ ¬ (tb = a ∧ g = f) := by
        unfold Tr.Bk
        rw [MT, htb, hpp, Int.toNat_natCast, Int.toNat_natCast, hqv]
        constructor
        · rintro ⟨⟨h1, h2⟩, h3⟩; exact ⟨⟨h1, by omega⟩, h3⟩
        · rintro ⟨⟨h1, h2⟩, h3⟩; exact ⟨⟨h1, by omega⟩, h3⟩
      have GV : Tr.Good T a f ↔ (Tr.tt T tb g = (a : Int) ∧ q = P4.ivt p) ∧ ¬ (tb = a ∧ g = f) := by
        rw [← BKV]
        exact ⟨fun h => h.bk hbd, fun h => Tr.good_of OKF.out fun _ => h⟩
      have nb : ¬ (tb : Int) = -1 := by omega
      have b8 : ((tb : Int) == -1) = false := by simp
      have GG := Lib.hid (fun (Y : World) (hb : Below W.heap.size W Y) => (show Calls Tryd.prog 92 #[.agg #[.int .i64 (a : Int), .int .i64 (f : Int)], .agg #[.int .i64 (tb : Int), .int .i64 (p : Int)]] Y (fun e w' => e = .returned (.agg #[.int .i64 (a : Int), .int .i64 (f : Int), .int .i64 (tb : Int), .int .i64 (g : Int), .int .u8 (x0 : Int), .int .u8 (x1 : Int), .int .u8 (x2 : Int), .int .u8 (x3 : Int)]) ∧ Below Y.heap.size Y w') from by
        have := gluingOf_impl (a : Int) f p (tb : Int) x0 x1 x2 x3 Y hf hp24 hx4 (HV.out.1.below (hB.trans (hb.mono zW)) h0.1)
        rw [hgv] at this
        exact this))
      have BB := Lib.hid (fun (Y : World) (hb : Below W.heap.size W Y) => gluedBack_impl A n c a f tb g p q T x0 x1 x2 x3 Y (HT.out.into (hB.trans (hb.mono zW))) (HV.out.below (hB.trans (hb.mono zW)) h0.1) htn hf hg4 hp24 hq24 (H4.out tb (by rw [LN.out]; exact htn)) hx4 hgv hqv)
      obtain ⟨r', hr'⟩ : ∃ r', decide ((Tr.tt T tb g = (a : Int) ∧ q = P4.ivt p) ∧ ¬ (tb = a ∧ g = f)) = r' := ⟨_, rfl⟩
      rw [hr'] at BB
      have GY := Lib.hid (show r' = true → Tr.Good T a f from fun e => GV.2 (of_decide_eq_true (hr'.trans e)))
      have GN := Lib.hid (show r' = false → ¬ Tr.Good T a f from fun e => fun h => of_decide_eq_false (hr'.trans e) (GV.1 h))
      rw [htb] at c0
      rw [hpp] at c1
      have S0 := Lib.hid (fun (Y : World) (hb : Below W.heap.size W Y) => (hb.cell (p := ⟨w.heap.size, 0, none⟩) (by dsimp only; omega)).trans b0)
      have S1 := Lib.hid (fun (Y : World) (hb : Below W.heap.size W Y) => (hb.cell (p := ⟨w.heap.size + 1, 0, none⟩) (by dsimp only; omega)).trans b1)
      have S2 := Lib.hid (fun (Y : World) (hb : Below W.heap.size W Y) => (hb.frozen (p := ⟨w.heap.size + 1, 0, none⟩) (by dsimp only; omega)).trans b2)
      have S3 := Lib.hid (fun (Y : World) (hb : Below W.heap.size W Y) => (hb.cell (p := ⟨Bx, 0, none⟩) (by dsimp only; omega)).trans m0)
      have S4 := Lib.hid (fun (Y : World) (hb : Below W.heap.size W Y) => (hb.cell (p := ⟨Bx, 1, none⟩) (by dsimp only; omega)).trans m1)
      have S5 := Lib.hid (fun (Y : World) (hb : Below W.heap.size W Y) => (hb.cell (p := ⟨Bx + 1, 0, none⟩) (by dsimp only; omega)).trans c0)
      have S6 := Lib.hid (fun (Y : World) (hb : Below W.heap.size W Y) => (hb.cell (p := ⟨Bx + 1, 1, none⟩) (by dsimp only; omega)).trans c1)
      have S7 := Lib.hid (fun (Y : World) (hb : Below W.heap.size W Y) => (hb.cell (p := ⟨0, 0, none⟩) (by dsimp only; omega)).trans v0)
      have S8 := Lib.hid (fun (Y : World) (hb : Below W.heap.size W Y) => (hb.cell (p := ⟨0, 1, none⟩) (by dsimp only; omega)).trans v1)
      have S9 := S8
      have CUR := Lib.hid (Below.refl W.heap.size W)
      clear OKF hbd t0 t1 p0 p1 htb hpp hx4 hx4b hgv hqv MT BKV GV hr'
      cases r' with
      | true =>
        have G := Lib.hid (GO.out (GY.out rfl))
        gi_wp2
        gi_region_with_o (first
          | (refine ⟨trivial, ?_⟩; gi_at_call 92; refine (CallsIn.inRound l (callsIn_wide.2 (GG.out _ (by first | exact CUR.out | exact CUR.out.drew)))).mono ?_; rintro e w6 ⟨rfl, hb6'⟩; (first | have hb6 := undrew hb6' | have hb6 := hb6'); replace CUR := Lib.hid (CUR.out.trans (hb6.mono CUR.out.size)); have e0 := S0.out _ CUR.out; have e1 := S1.out _ CUR.out; have e2 := S2.out _ CUR.out; have e3 := S3.out _ CUR.out; have e4 := S4.out _ CUR.out; have e5 := S5.out _ CUR.out; have e6 := S6.out _ CUR.out; have e7 := S7.out _ CUR.out; have e8 := S8.out _ CUR.out; have e9 := S9.out _ CUR.out; clear hb6 hb6')
          | (refine ⟨trivial, ?_⟩; gi_at_call 104; refine (CallsIn.inRound l (callsIn_wide.2 (BB.out _ (by first | exact CUR.out | exact CUR.out.drew)))).mono ?_; rintro e w7 ⟨rfl, hb6'⟩; (first | have hb6 := undrew hb6' | have hb6 := hb6'); replace CUR := Lib.hid (CUR.out.trans (hb6.mono CUR.out.size)); have e0 := S0.out _ CUR.out; have e1 := S1.out _ CUR.out; have e2 := S2.out _ CUR.out; have e3 := S3.out _ CUR.out; have e4 := S4.out _ CUR.out; have e5 := S5.out _ CUR.out; have e6 := S6.out _ CUR.out; have e7 := S7.out _ CUR.out; have e8 := S8.out _ CUR.out; have e9 := S9.out _ CUR.out; clear hb6 hb6'))
        all_goals gi_wp2
        all_goals (try go_bits)
        all_goals exact ⟨KeepsFrom.of_below CUR.out (Nat.le_refl _), CUR.out.mono zW, ⟨G.out, e0, e1, e2⟩, hB.trans (CUR.out.mono zW)⟩
      | false =>
        have G := Lib.hid (NG.out (GN.out rfl))
        gi_wp2
        gi_region_with_o (first
          | (refine ⟨trivial, ?_⟩; gi_at_call 92; refine (CallsIn.inRound l (callsIn_wide.2 (GG.out _ (by first | exact CUR.out | exact CUR.out.drew)))).mono ?_; rintro e w6 ⟨rfl, hb6'⟩; (first | have hb6 := undrew hb6' | have hb6 := hb6'); replace CUR := Lib.hid (CUR.out.trans (hb6.mono CUR.out.size)); have e0 := S0.out _ CUR.out; have e1 := S1.out _ CUR.out; have e2 := S2.out _ CUR.out; have e3 := S3.out _ CUR.out; have e4 := S4.out _ CUR.out; have e5 := S5.out _ CUR.out; have e6 := S6.out _ CUR.out; have e7 := S7.out _ CUR.out; have e8 := S8.out _ CUR.out; have e9 := S9.out _ CUR.out; clear hb6 hb6')
          | (refine ⟨trivial, ?_⟩; gi_at_call 104; refine (CallsIn.inRound l (callsIn_wide.2 (BB.out _ (by first | exact CUR.out | exact CUR.out.drew)))).mono ?_; rintro e w7 ⟨rfl, hb6'⟩; (first | have hb6 := undrew hb6' | have hb6 := hb6'); replace CUR := Lib.hid (CUR.out.trans (hb6.mono CUR.out.size)); have e0 := S0.out _ CUR.out; have e1 := S1.out _ CUR.out; have e2 := S2.out _ CUR.out; have e3 := S3.out _ CUR.out; have e4 := S4.out _ CUR.out; have e5 := S5.out _ CUR.out; have e6 := S6.out _ CUR.out; have e7 := S7.out _ CUR.out; have e8 := S8.out _ CUR.out; have e9 := S9.out _ CUR.out; clear hb6 hb6'))
        all_goals gi_wp2
        all_goals (try go_bits)
        all_goals exact ⟨(KeepsFrom.of_below CUR.out (Nat.le_refl _)).trans ((KeepsOthers.setCell _ _ _).from _), ⟨rfl, G.out, World.cell?_setCell_same' _ _ _ (by rw [e1]; rfl)⟩, (hB.trans (CUR.out.mono zW)).setCell (by dsimp only; omega) _⟩
  case done =>
    rintro D W hD ⟨⟨hall, b0, b1, b2⟩, hB⟩ hK
    have R := Lib.hid (show decide (Tr.Is T) = true from decide_eq_true ⟨by rw [LN.out]; exact h8, H4.out, fun a ha f hf => up_all hall a (by rw [← LN.out]; exact ha) f hf⟩)
    gi_wp2
    have hK' := (KeepsOthers.setCell W ⟨w.heap.size + 1, 0, none⟩ (.bool true)).same D _ hK rfl
    have hc5 := cell_kept (World.cell?_setCell_same' W ⟨w.heap.size + 1, 0, none⟩ (.bool true) (by rw [b1]; rfl)) (grownBy_putObj' _ D (.deferred none)) (fun r e => by cases e; exact ⟨_, hK', rfl⟩)
    refine leave1 (v := .bool true) hK' (by simp [results, Tryd.results31, go_sem, hc5]) ⟨by rw [R.out], (hB.setCell (p := ⟨w.heap.size + 1, 0, none⟩) (by dsimp only; omega) _).trans (belowK_b (w := w) (Nat.le_refl _) _ D _ _ (by omega) hK' rfl rfl)⟩
  case stop =>
    rintro D c q W hD hq ⟨⟨rfl, ⟨x, hx, hbad⟩, hcr⟩, hB⟩ hK
    have R := Lib.hid (show decide (Tr.Is T) = false from decide_eq_false fun e => hbad (e.2.2 (x.1 / 4) (by rw [LN.out]; have := x.2; omega) (x.1 % 4) (by omega)))
    gi_wp2
    have hc5 := cell_kept hcr (grownBy_putObj' _ D (.deferred none)) (fun r e => by cases e; exact ⟨_, hK, rfl⟩)
    refine leave1 (v := .bool false) hK (by simp [results, Tryd.results31, go_sem, hc5]) ⟨by rw [R.out], hB.trans (belowK_b (w := w) (Nat.le_refl _) _ D _ _ (by omega) hK rfl rfl)⟩

end Fc
end Go.Proofs.YtjendlfophdfeaaDoor
