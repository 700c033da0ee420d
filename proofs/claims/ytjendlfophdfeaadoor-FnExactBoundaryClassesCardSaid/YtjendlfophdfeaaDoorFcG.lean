/- The program's gluings: how they are made, turned round and compared. No condition but those that each theorem names. -/
import Derived.Test.YtjendlfophdfeaaDoorFcF
import Derived.Test.YtjendlfophdfeaaDoorFcL
import Derived.Test.YtjendlfophdfeaaDoorPfH
import Derived.DeepKeys
namespace Go.Proofs.YtjendlfophdfeaaDoor
open Go.RowKit
namespace Fc

set_option maxRecDepth 100000 in
theorem face_eq (a b c d : Int) (w : World) : (Op.equalIn 10000 83 (.agg #[.int .i64 a, .int .i64 b]) (.agg #[.int .i64 c, .int .i64 d])).run Tryd.prog w = .ok (a == c && b == d) w := by
  have u3 := Tryd.underlying2
  have a3 := Tryd.isAgg2
  have z3 := Tryd.sizeOf2
  have hS : Tryd.prog.underlying 83 = some (.struct (Tryd.prog.fieldsOf 83)) := by kernel_rfl
  have hp : Tryd.prog.stoodInHeld 83 = false := by kernel_rfl
  rw [show (10000 : Nat) = 9999 + 1 from rfl, run_equalIn_agg w 9999 83 _ _ hS hp]
  simp only [Program.fieldsOf, Tryd.underlying83]
  go_simp
  by_cases h1 : a = c <;> by_cases h2 : b = d <;> simp [h1, h2]
set_option maxRecDepth 100000 in
theorem tetFace_eq (a b c e : Int) (k : Nat) (w : World) : (Op.equalIn (k + 2) 94 (.agg #[.int .i64 a, .int .i64 b]) (.agg #[.int .i64 c, .int .i64 e])).run Tryd.prog w = .ok (a == c && b == e) w := by
  have u3 := Tryd.underlying2
  have a3 := Tryd.isAgg2
  have z3 := Tryd.sizeOf2
  have hS : Tryd.prog.underlying 94 = some (.struct (Tryd.prog.fieldsOf 94)) := by kernel_rfl
  have hp : Tryd.prog.stoodInHeld 94 = false := by kernel_rfl
  rw [show (k + 2 : Nat) = (k + 1) + 1 from rfl, run_equalIn_agg w (k + 1) 94 _ _ hS hp]
  simp only [Program.fieldsOf, Tryd.underlying94]
  go_simp
  by_cases h1 : a = c <;> by_cases h2 : b = e <;> simp [h1, h2]
set_option maxRecDepth 100000 in
theorem perm_eq (x0 x1 x2 x3 y0 y1 y2 y3 : Int) (k : Nat) (w : World) : (Op.equalIn (k + 2) 121 (.agg #[.int .u8 x0, .int .u8 x1, .int .u8 x2, .int .u8 x3]) (.agg #[.int .u8 y0, .int .u8 y1, .int .u8 y2, .int .u8 y3])).run Tryd.prog w = .ok ((x0 == y0 && x1 == y1) && (x2 == y2 && x3 == y3)) w := by
  have u3 := Tryd.underlying5
  have a3 := Tryd.isAgg5
  have z3 := Tryd.sizeOf5
  have c5 : Tryd.prog.cellsOf 5 = 1 := by kernel_rfl
  obtain ⟨i, hi⟩ : ∃ i, Tryd.prog.info? 5 = some i := Option.isSome_iff_exists.1 (by kernel_rfl)
  rw [show (k + 2 : Nat) = (k + 1) + 1 from rfl, run_equalIn_array w (k + 1) _ _ Tryd.underlying121 hi]
  rw [show List.range 4 = [0, 1, 2, 3] from rfl, c5]
  simp only [Op.eqItems]
  go_simp
  by_cases h1 : x0 = y0 <;> by_cases h2 : x1 = y1 <;> by_cases h3 : x2 = y2 <;> by_cases h4 : x3 = y3 <;> simp [h1, h2, h3, h4]
set_option maxRecDepth 100000 in
theorem gluing_eq (a f b g x0 x1 x2 x3 a' f' b' g' y0 y1 y2 y3 : Int) (w : World) : (Op.equalIn 10000 123 (.agg #[.int .i64 a, .int .i64 f, .int .i64 b, .int .i64 g, .int .u8 x0, .int .u8 x1, .int .u8 x2, .int .u8 x3]) (.agg #[.int .i64 a', .int .i64 f', .int .i64 b', .int .i64 g', .int .u8 y0, .int .u8 y1, .int .u8 y2, .int .u8 y3])).run Tryd.prog w = .ok (((a == a' && f == f') && (b == b' && g == g')) && ((x0 == y0 && x1 == y1) && (x2 == y2 && x3 == y3))) w := by
  have hS : Tryd.prog.underlying 123 = some (.struct (Tryd.prog.fieldsOf 123)) := by kernel_rfl
  have hp : Tryd.prog.stoodInHeld 123 = false := by kernel_rfl
  have t1 := tetFace_eq a f a' f' 9997
  have t2 := tetFace_eq b g b' g' 9997
  have t3 := perm_eq x0 x1 x2 x3 y0 y1 y2 y3 9997
  have p1 : ∀ (x0 x1 x2 x3 x4 x5 x6 x7 : Value) (w : World), (Go.part 94 #[x0, x1, x2, x3, x4, x5, x6, x7] 0).run Tryd.prog w = .ok (.agg #[x0, x1]) w := fun _ _ _ _ _ _ _ _ _ => by kernel_rfl
  have p2 : ∀ (x0 x1 x2 x3 x4 x5 x6 x7 : Value) (w : World), (Go.part 94 #[x0, x1, x2, x3, x4, x5, x6, x7] 2).run Tryd.prog w = .ok (.agg #[x2, x3]) w := fun _ _ _ _ _ _ _ _ _ => by kernel_rfl
  have p3 : ∀ (x0 x1 x2 x3 x4 x5 x6 x7 : Value) (w : World), (Go.part 121 #[x0, x1, x2, x3, x4, x5, x6, x7] 4).run Tryd.prog w = .ok (.agg #[x4, x5, x6, x7]) w := fun _ _ _ _ _ _ _ _ _ => by kernel_rfl
  rw [show (10000 : Nat) = 9999 + 1 from rfl, run_equalIn_agg w 9999 123 _ _ hS hp]
  simp only [Program.fieldsOf, Tryd.underlying123]
  go_simp
  have n1 : ∀ u v u' v' : Int, ¬ (u = u' ∧ v = v') → (u == u' && v == v') = false := fun u v u' v' h => by simp; exact fun e1 e2 => h ⟨e1, e2⟩
  by_cases k1 : a = a' ∧ f = f'
  · obtain ⟨rfl, rfl⟩ := k1
    by_cases k2 : b = b' ∧ g = g'
    · obtain ⟨rfl, rfl⟩ := k2
      by_cases k3 : x0 = y0 ∧ x1 = y1 ∧ x2 = y2 ∧ x3 = y3
      · obtain ⟨rfl, rfl, rfl, rfl⟩ := k3
        simp
      · rw [if_neg (fun h => h rfl rfl), if_neg (fun h => h rfl rfl), if_pos (fun e1 e2 e3 e4 => k3 ⟨e1, e2, e3, e4⟩)]
        have : (x0 == y0 && x1 == y1 && (x2 == y2 && x3 == y3)) = false := by simp; exact fun e1 e2 e3 e4 => k3 ⟨e1, e2, e3, e4⟩
        rw [this]
        simp
    · rw [if_neg (fun h => h rfl rfl), if_pos (fun e1 e2 => k2 ⟨e1, e2⟩), n1 _ _ _ _ k2]
      simp
  · rw [if_pos (fun e1 e2 => k1 ⟨e1, e2⟩), n1 _ _ _ _ k1]
    simp

set_option maxHeartbeats 1000000 in
theorem isTet_yes (A : Option Addr) (n c : Nat) (x : Int) (w : World) (h0 : 0 ≤ x) (h1 : x < n) :
    Calls Tryd.prog 89 #[.agg #[.slice A n c], .int .i64 x] w fun e w' => e = .returned (.bool true) ∧ Below w.heap.size w w' := by
  have t0 : decide ((0 : Int) ≤ x) = true := by simpa using h0
  have t1 : decide (x < (n : Int)) = true := by simpa using h1
  go_enter Tryd.func89, Tryd.ntmps89
  go_wp2
  go_ret
  exact ⟨rfl, al1 _ _⟩
set_option maxHeartbeats 1000000 in
theorem isTet_no (A : Option Addr) (n c : Nat) (x : Int) (w : World) (h : ¬ (0 ≤ x ∧ x < n)) :
    Calls Tryd.prog 89 #[.agg #[.slice A n c], .int .i64 x] w fun e w' => e = .returned (.bool false) ∧ Below w.heap.size w w' := by
  by_cases h0 : 0 ≤ x
  · have h1 : ¬ x < n := fun e => h ⟨h0, e⟩
    have t0 : decide ((0 : Int) ≤ x) = true := by simpa using h0
    have t1 : decide (x < (n : Int)) = false := by simpa using h1
    clear h
    go_enter Tryd.func89, Tryd.ntmps89
    go_wp2
    go_ret
    exact ⟨rfl, al1 _ _⟩
  · have t0 : decide ((0 : Int) ≤ x) = false := by simpa using h0
    clear h
    go_enter Tryd.func89, Tryd.ntmps89
    go_wp2
    go_ret
    exact ⟨rfl, al1 _ _⟩

set_option maxRecDepth 100000 in
set_option maxHeartbeats 2000000 in
theorem dat_impl (A : Option Addr) (n c a f : Nat) (T : List (List Int)) (w : World) (h : RdT w w.heap.size A n T) (ha : a < n) (hf : f < 4) (h4 : (T.getD a []).length = 8) :
    Calls Tryd.prog 93 #[.agg #[.slice A n c], .agg #[.int .i64 (a : Int), .int .i64 (f : Int)]] w fun e w' => e = .returned (.agg #[.int .i64 (Tr.tt T a f), .int .i64 (Tr.pp T a f)]) ∧ Below w.heap.size w w' := by
  obtain ⟨b, off, g, o, cj, rfl, hb, hg, hc, _, _, c0, c1⟩ := h.face ha hf h4
  clear h
  obtain ⟨x, hx⟩ : ∃ x, Tr.tt T a f = x := ⟨_, rfl⟩
  obtain ⟨y, hy⟩ : ∃ y, Tr.pp T a f = y := ⟨_, rfl⟩
  rw [hx] at c0 ⊢
  rw [hy] at c1 ⊢
  have i0 : (0 : Int) ≤ (a : Int) := by omega
  have i1 : (a : Int) < (n : Int) := by omega
  have i2 : (0 : Int) ≤ (f : Int) := by omega
  have i3 : (f : Int) < 4 := by omega
  clear hx hy h4
  go_enter Tryd.func93, Tryd.ntmps93
  go_upto_region 1 with fail
  obtain ⟨U, hU⟩ : ∃ U, U = (((w.alloc (Obj.cells #[.slice (some ⟨b, off, none⟩) n c] 29)).alloc (Obj.cells #[.int .i64 (a : Int), .int .i64 (f : Int)] 94)).alloc (Obj.cells #[.int .i64 0, .int .i64 0] 83)) := ⟨_, rfl⟩
  have hB : Below w.heap.size w U := by rw [hU]; exact al3 _ _ _ _
  have z : w.heap.size + 1 + 1 < U.heap.size := by rw [hU]; simp
  have k0 : U.cell? ⟨w.heap.size, 0, none⟩ = some (.slice (some ⟨b, off, none⟩) n c) := by rw [hU]; simp [go_sem]
  have k1 : U.cell? ⟨w.heap.size + 1, 0, none⟩ = some (.int .i64 (a : Int)) := by rw [hU]; simp [go_sem]
  have k2 : U.cell? ⟨w.heap.size + 1, 1, none⟩ = some (.int .i64 (f : Int)) := by rw [hU]; simp [go_sem]
  have r0 : U.cell? ⟨w.heap.size + 1 + 1, 0, none⟩ = some (.int .i64 0) := by rw [hU]; simp [go_sem]
  have r1 : U.cell? ⟨w.heap.size + 1 + 1, 1, none⟩ = some (.int .i64 0) := by rw [hU]; simp [go_sem]
  have f0 : U.frozen? ⟨w.heap.size + 1 + 1, 0, none⟩ = false := by rw [hU]; simp [go_sem]
  have f1 : U.frozen? ⟨w.heap.size + 1 + 1, 1, none⟩ = false := by rw [hU]; simp [go_sem]
  have q0 := (hB.cell (p := ⟨b, off + a, none⟩) hb).trans hc
  have q1 := (hB.cell (p := ⟨g, o + f * 2, none⟩) hg).trans c0
  have q2 := (hB.cell (p := ⟨g, o + f * 2 + 1, none⟩) hg).trans c1
  rw [← hU]
  have DB := Lib.hid hB
  clear hU hB hc c0 c1
  go_region
  all_goals
    go_wp2
    refine bodyPost_ret (v := .agg #[.int .i64 x, .int .i64 y]) (by simp [results, Tryd.results93, go_sem, r0, r1]) rfl ⟨rfl, ?_⟩
    first
      | exact ((DB.out.drew.setCell (by dsimp only; omega) _).setCell (by dsimp only; omega) _)
      | exact ((DB.out.setCell (by dsimp only; omega) _).setCell (by dsimp only; omega) _).drew

set_option maxRecDepth 100000 in
set_option maxHeartbeats 4000000 in
theorem gluingOf_impl (a : Int) (f p : Nat) (b : Int) (x0 x1 x2 x3 : Nat) (w : World) (hf : f < 4) (hp : p < 24) (hx : P4.im p = [(x0 : Int), (x1 : Int), (x2 : Int), (x3 : Int)]) (ht : Tb w) :
    Calls Tryd.prog 92 #[.agg #[.int .i64 a, .int .i64 (f : Int)], .agg #[.int .i64 b, .int .i64 (p : Int)]] w fun e w' => e = .returned (.agg #[.int .i64 a, .int .i64 (f : Int), .int .i64 b, .int .i64 ((P4.im p).getD f 0), .int .u8 (x0 : Int), .int .u8 (x1 : Int), .int .u8 (x2 : Int), .int .u8 (x3 : Int)]) ∧ Below w.heap.size w w' := by
  have h0 := ht.pos
  obtain ⟨y0, y1, y2, y3, hy, ⟨b0, b1, b2, b3⟩, c0, c1, c2, c3⟩ := ht.four hp
  rw [hx] at hy
  obtain ⟨rfl, rfl, rfl, rfl⟩ : x0 = y0 ∧ x1 = y1 ∧ x2 = y2 ∧ x3 = y3 := by simp at hy; omega
  rw [hx]
  clear hy hx ht
  have i0 : (0 : Int) ≤ (p : Int) := by omega
  have i1 : (p : Int) < 24 := by omega
  have hff : f = 0 ∨ f = 1 ∨ f = 2 ∨ f = 3 := by omega
  clear hf
  go_enter Tryd.func92, Tryd.ntmps92
  go_upto_region 1 with fail
  obtain ⟨U, hU⟩ : ∃ U, U = (((w.alloc (Obj.cells #[.int .i64 a, .int .i64 (f : Int)] 94)).alloc (Obj.cells #[.int .i64 b, .int .i64 (p : Int)] 83)).alloc (Obj.cells #[.int .i64 0, .int .i64 0, .int .i64 0, .int .i64 0, .int .u8 0, .int .u8 0, .int .u8 0, .int .u8 0] 123)) := ⟨_, rfl⟩
  have hB : Below w.heap.size w U := by rw [hU]; exact al3 _ _ _ _
  have z : w.heap.size + 1 + 1 < U.heap.size := by rw [hU]; simp
  have k0 : U.cell? ⟨w.heap.size, 0, none⟩ = some (.int .i64 a) := by rw [hU]; simp [go_sem]
  have k1 : U.cell? ⟨w.heap.size, 1, none⟩ = some (.int .i64 (f : Int)) := by rw [hU]; simp [go_sem]
  have k2 : U.cell? ⟨w.heap.size + 1, 0, none⟩ = some (.int .i64 b) := by rw [hU]; simp [go_sem]
  have k3 : U.cell? ⟨w.heap.size + 1, 1, none⟩ = some (.int .i64 (p : Int)) := by rw [hU]; simp [go_sem]
  have RB := Lib.hid (show U.heap[w.heap.size + 1 + 1]? = some (Obj.cells #[.int .i64 0, .int .i64 0, .int .i64 0, .int .i64 0, .int .u8 0, .int .u8 0, .int .u8 0, .int .u8 0] 123 (0, 0)) from by
    rw [hU]
    have e := World.alloc_heap_new ((w.alloc (Obj.cells #[.int .i64 a, .int .i64 (f : Int)] 94)).alloc (Obj.cells #[.int .i64 b, .int .i64 (p : Int)] 83)) (Obj.cells #[.int .i64 0, .int .i64 0, .int .i64 0, .int .i64 0, .int .u8 0, .int .u8 0, .int .u8 0, .int .u8 0] 123)
    rw [World.size_alloc, World.size_alloc] at e
    exact e)
  have q0 := (hB.cell (p := ⟨1, p * 4, none⟩) (by dsimp only; omega)).trans c0
  have q1 := (hB.cell (p := ⟨1, p * 4 + 1, none⟩) (by dsimp only; omega)).trans c1
  have q2 := (hB.cell (p := ⟨1, p * 4 + 2, none⟩) (by dsimp only; omega)).trans c2
  have q3 := (hB.cell (p := ⟨1, p * 4 + 3, none⟩) (by dsimp only; omega)).trans c3
  rw [← hU]
  have DU := Lib.hid hB
  clear hU hB c0 c1 c2 c3
  go_upto_region 2 with fail
  obtain ⟨V, hV⟩ : ∃ V, V = U.alloc (Obj.cells #[.int .u8 (x0 : Int), .int .u8 (x1 : Int), .int .u8 (x2 : Int), .int .u8 (x3 : Int)] 121) := ⟨_, rfl⟩
  have hB : Below U.heap.size U V := by rw [hV]; exact al1 _ _
  have z2 : U.heap.size < V.heap.size := by rw [hV]; simp
  have v0 : V.cell? ⟨U.heap.size, 0, none⟩ = some (.int .u8 (x0 : Int)) := by rw [hV]; simp [go_sem]
  have v1 : V.cell? ⟨U.heap.size, 1, none⟩ = some (.int .u8 (x1 : Int)) := by rw [hV]; simp [go_sem]
  have v2 : V.cell? ⟨U.heap.size, 2, none⟩ = some (.int .u8 (x2 : Int)) := by rw [hV]; simp [go_sem]
  have v3 : V.cell? ⟨U.heap.size, 3, none⟩ = some (.int .u8 (x3 : Int)) := by rw [hV]; simp [go_sem]
  have m0 := (hB.cell (p := ⟨w.heap.size, 0, none⟩) (by dsimp only; omega)).trans k0
  have m1 := (hB.cell (p := ⟨w.heap.size, 1, none⟩) (by dsimp only; omega)).trans k1
  have m2 := (hB.cell (p := ⟨w.heap.size + 1, 0, none⟩) (by dsimp only; omega)).trans k2
  have RV := (hB.block (w.heap.size + 1 + 1) (by omega)).trans RB.out
  have r0 := cell_of_row V _ 0 _ _ _ RV
  have r1 := cell_of_row V _ 1 _ _ _ RV
  have r2 := cell_of_row V _ 2 _ _ _ RV
  have r3 := cell_of_row V _ 3 _ _ _ RV
  have r4 := cell_of_row V _ 4 _ _ _ RV
  have r5 := cell_of_row V _ 5 _ _ _ RV
  have r6 := cell_of_row V _ 6 _ _ _ RV
  have r7 := cell_of_row V _ 7 _ _ _ RV
  simp only [List.getElem?_toArray, List.getElem?_cons_zero, List.getElem?_cons_succ] at r0 r1 r2 r3 r4 r5 r6 r7
  have fz : ∀ o, V.frozen? ⟨w.heap.size + 1 + 1, o, none⟩ = false := fun o => by simp [World.frozen?, RV]
  have fz0 := fz 0
  have fz1 := fz 1
  have fz2 := fz 2
  have fz3 := fz 3
  have fz4 := fz 4
  have fz5 := fz 5
  have fz6 := fz 6
  have fz7 := fz 7
  rw [← hV]
  have DV := Lib.hid (DU.out.trans (hB.mono (by omega)))
  clear hV hB k0 k1 k2 k3 q0 q1 q2 q3 RV fz
  have sc : ∀ (W : World) (o : Nat) (v : Value), Below w.heap.size w W → Below w.heap.size w (W.setCell ⟨w.heap.size + 1 + 1, o, none⟩ v) := fun W o v h => h.setCell (by dsimp only; omega) v
  have SC := Lib.hid sc
  clear sc
  rcases hff with rfl | rfl | rfl | rfl
  all_goals
    go_region
    all_goals
      go_wp2
      refine bodyPost_ret (by simp [results, Tryd.results92, go_sem, r0, r1, r2, r3, r4, r5, r6, r7]) rfl ⟨rfl, ?_⟩
      repeat (first | (with_reducible exact DV.out) | (with_reducible exact DV.out.drew) | (with_reducible refine SC.out _ _ _ ?_) | (with_reducible refine Below.drew ?_))

set_option maxRecDepth 100000 in
set_option maxHeartbeats 4000000 in
theorem reversed_impl (a f b g : Int) (x0 x1 x2 x3 y0 y1 y2 y3 : Int) (w : World) (hl : L4 [x0, x1, x2, x3]) (hr : L4 [y0, y1, y2, y3]) (hi : P4.invk [x0, x1, x2, x3] 4 = [y0, y1, y2, y3]) :
    Calls Tryd.prog 150 #[.agg #[.int .i64 a, .int .i64 f, .int .i64 b, .int .i64 g, .int .u8 x0, .int .u8 x1, .int .u8 x2, .int .u8 x3]] w fun e w' => e = .returned (.agg #[.int .i64 b, .int .i64 g, .int .i64 a, .int .i64 f, .int .u8 y0, .int .u8 y1, .int .u8 y2, .int .u8 y3]) ∧ Below w.heap.size w w' := by
  have PI := Lib.hid (fun (W : World) => (show Calls Tryd.prog 102 #[.agg #[.int .u8 x0, .int .u8 x1, .int .u8 x2, .int .u8 x3]] W (fun e w' => e = .returned (.agg #[.int .u8 y0, .int .u8 y1, .int .u8 y2, .int .u8 y3]) ∧ Below W.heap.size W w') from by
    have h := pinv_impl [x0, x1, x2, x3] W hl (by rw [hi]; exact hr)
    rw [hi] at h
    exact h))
  clear hl hr hi
  go_enter Tryd.func150, Tryd.ntmps150
  go_upto_region 1 with fail
  obtain ⟨U, hU⟩ : ∃ U, U = ((w.alloc (Obj.cells #[.int .i64 a, .int .i64 f, .int .i64 b, .int .i64 g, .int .u8 x0, .int .u8 x1, .int .u8 x2, .int .u8 x3] 123)).alloc (Obj.cells #[.int .i64 0, .int .i64 0, .int .i64 0, .int .i64 0, .int .u8 0, .int .u8 0, .int .u8 0, .int .u8 0] 123)) := ⟨_, rfl⟩
  have hB : Below w.heap.size w U := by rw [hU]; exact al2 _ _ _
  have z : w.heap.size + 1 < U.heap.size := by rw [hU]; simp
  have KB : U.heap[w.heap.size]? = some (Obj.cells #[.int .i64 a, .int .i64 f, .int .i64 b, .int .i64 g, .int .u8 x0, .int .u8 x1, .int .u8 x2, .int .u8 x3] 123 (0, 0)) := by
    rw [hU]
    exact (Below.heap_alloc _ _ _ (by simp)).trans (World.alloc_heap_new _ _)
  have RB : U.heap[w.heap.size + 1]? = some (Obj.cells #[.int .i64 0, .int .i64 0, .int .i64 0, .int .i64 0, .int .u8 0, .int .u8 0, .int .u8 0, .int .u8 0] 123 (0, 0)) := by
    rw [hU]
    have e := World.alloc_heap_new (w.alloc (Obj.cells #[.int .i64 a, .int .i64 f, .int .i64 b, .int .i64 g, .int .u8 x0, .int .u8 x1, .int .u8 x2, .int .u8 x3] 123)) (Obj.cells #[.int .i64 0, .int .i64 0, .int .i64 0, .int .i64 0, .int .u8 0, .int .u8 0, .int .u8 0, .int .u8 0] 123)
    rw [World.size_alloc] at e
    exact e
  have KX := Lib.hid (fun (W : World) (hb : Below U.heap.size U W) => (hb.block w.heap.size (by omega)).trans KB)
  have RX := Lib.hid (fun (W : World) (hb : Below U.heap.size U W) => (hb.block (w.heap.size + 1) (by omega)).trans RB)
  have k0 := cell_of_row U _ 0 _ _ _ KB
  have k1 := cell_of_row U _ 1 _ _ _ KB
  have k2 := cell_of_row U _ 2 _ _ _ KB
  have k3 := cell_of_row U _ 3 _ _ _ KB
  have k4 := cell_of_row U _ 4 _ _ _ KB
  have k5 := cell_of_row U _ 5 _ _ _ KB
  have k6 := cell_of_row U _ 6 _ _ _ KB
  have k7 := cell_of_row U _ 7 _ _ _ KB
  simp only [List.getElem?_toArray, List.getElem?_cons_zero, List.getElem?_cons_succ] at k0 k1 k2 k3 k4 k5 k6 k7
  rw [← hU]
  have DU := Lib.hid hB
  have sc : ∀ (W : World) (o : Nat) (v : Value), Below w.heap.size w W → Below w.heap.size w (W.setCell ⟨w.heap.size + 1, o, none⟩ v) := fun W o v h => h.setCell (by dsimp only; omega) v
  have SC := Lib.hid sc
  clear hU hB KB RB sc
  go_region_with (go_at_call 102; (with_reducible refine (PI.out _).mono ?_); rintro e w6 ⟨rfl, hb6'⟩; have hb6 := undrew hb6'; have B6 := Lib.hid hb6; have z6 := hb6.size; have KB := KX.out w6 hb6; have RB := RX.out w6 hb6; have k0 := cell_of_row w6 _ 0 _ _ _ KB; have k1 := cell_of_row w6 _ 1 _ _ _ KB; have k2 := cell_of_row w6 _ 2 _ _ _ KB; have k3 := cell_of_row w6 _ 3 _ _ _ KB; have k4 := cell_of_row w6 _ 4 _ _ _ KB; have k5 := cell_of_row w6 _ 5 _ _ _ KB; have k6 := cell_of_row w6 _ 6 _ _ _ KB; have k7 := cell_of_row w6 _ 7 _ _ _ KB; have r0 := cell_of_row w6 _ 0 _ _ _ RB; have r1 := cell_of_row w6 _ 1 _ _ _ RB; have r2 := cell_of_row w6 _ 2 _ _ _ RB; have r3 := cell_of_row w6 _ 3 _ _ _ RB; have r4 := cell_of_row w6 _ 4 _ _ _ RB; have r5 := cell_of_row w6 _ 5 _ _ _ RB; have r6 := cell_of_row w6 _ 6 _ _ _ RB; have r7 := cell_of_row w6 _ 7 _ _ _ RB; have fz0 : w6.frozen? ⟨w.heap.size + 1, 0, none⟩ = false := (by simp [World.frozen?, RB]); have fz1 : w6.frozen? ⟨w.heap.size + 1, 1, none⟩ = false := (by simp [World.frozen?, RB]); have fz2 : w6.frozen? ⟨w.heap.size + 1, 2, none⟩ = false := (by simp [World.frozen?, RB]); have fz3 : w6.frozen? ⟨w.heap.size + 1, 3, none⟩ = false := (by simp [World.frozen?, RB]); have fz4 : w6.frozen? ⟨w.heap.size + 1, 4, none⟩ = false := (by simp [World.frozen?, RB]); have fz5 : w6.frozen? ⟨w.heap.size + 1, 5, none⟩ = false := (by simp [World.frozen?, RB]); have fz6 : w6.frozen? ⟨w.heap.size + 1, 6, none⟩ = false := (by simp [World.frozen?, RB]); have fz7 : w6.frozen? ⟨w.heap.size + 1, 7, none⟩ = false := (by simp [World.frozen?, RB]); simp only [List.getElem?_toArray, List.getElem?_cons_zero, List.getElem?_cons_succ] at k0 k1 k2 k3 k4 k5 k6 k7 r0 r1 r2 r3 r4 r5 r6 r7; have DV := Lib.hid (DU.out.trans (hb6.mono (by omega))); clear KB RB hb6 hb6')
  all_goals
    go_wp2
    refine bodyPost_ret (by simp [results, Tryd.results150, go_sem, r0, r1, r2, r3, r4, r5, r6, r7]) rfl ⟨rfl, ?_⟩
    repeat (first | (with_reducible exact DV.out) | (with_reducible exact DV.out.drew) | (with_reducible refine SC.out _ _ _ ?_) | (with_reducible refine Below.drew ?_))

end Fc
end Go.Proofs.YtjendlfophdfeaaDoor
