/- Contracts of the laws' helpers over lists of faces: sizes, copies, comparisons, marks. No condition but those that each theorem names. -/
import Derived.Test.YtjendlfophdfeaaDoorFcA
import Derived.Deep.RegionHeld3
import Derived.Outline
import Derived.Deep.Cut
namespace Go.Proofs.YtjendlfophdfeaaDoor
open Go.RowKit
namespace Fc

/-- How many faces the rows have. -/
def cnt : List Rw → Nat
  | [] => 0
  | r :: rs => r.zs.length / 2 + cnt rs
theorem cnt_app (rs qs : List Rw) : cnt (rs ++ qs) = cnt rs + cnt qs := by
  induction rs with
  | nil => simp [cnt]
  | cons r rs ih => simp [cnt, ih]; omega
theorem cnt_take {rs : List Rw} {j : Nat} (h : j < rs.length) : cnt (rs.take (j + 1)) = cnt (rs.take j) + (rs.getD j nilRw).zs.length / 2 := by
  rw [take_row h, cnt_app]; simp [cnt]
theorem cnt_le (rs : List Rw) (j : Nat) : cnt (rs.take j) ≤ cnt rs := by
  have := cnt_app (rs.take j) (rs.drop j)
  rw [List.take_append_drop] at this
  omega
theorem tot_cnt {rs : List Rw} (h : ∀ r ∈ rs, r.zs.length % 2 = 0) : tot rs = 2 * cnt rs := by
  induction rs with
  | nil => rfl
  | cons r rs ih =>
    have h1 := h r (by simp)
    have h2 := ih fun q hq => h q (by simp [hq])
    simp only [tot, cnt]
    omega

/-- A block of faces that is known whole, none frozen. -/
def BlkF (w : World) (g : Nat) (zs : List Int) : Prop := w.heap[g]? = some (.cells (zs.map (Value.int .i64)).toArray 83 (0, 0))
theorem BlkF.lt {w : World} {g : Nat} {zs : List Int} (h : BlkF w g zs) : g < w.heap.size := by
  rcases Nat.lt_or_ge g w.heap.size with hlt | hge
  · exact hlt
  · unfold BlkF at h; rw [Array.getElem?_eq_none hge] at h; cases h
theorem BlkF.cell {w : World} {g : Nat} {zs : List Int} (h : BlkF w g zs) {i : Nat} (hi : i < zs.length) : w.cell? ⟨g, i, none⟩ = some (.int .i64 (zs.getD i 0)) := by
  rw [cell_of_row w g i _ _ (0, 0) h]
  simp [List.getElem?_eq_getElem hi]
theorem BlkF.frozen {w : World} {g : Nat} {zs : List Int} (h : BlkF w g zs) (i : Nat) : w.frozen? ⟨g, i, none⟩ = false := by
  unfold BlkF at h
  simp [World.frozen?, h]
theorem BlkF.new (w : World) (zs : List Int) : BlkF (w.alloc (.cells (zs.map (Value.int .i64)).toArray 83)) w.heap.size zs := heap_alloc_new w _
theorem BlkF.zeros (w : World) (n : Nat) : BlkF (w.alloc (.cells (Array.replicate n (Value.int .i64 0)) 83)) w.heap.size (List.replicate n 0) := by
  have h := BlkF.new w (List.replicate n 0)
  simpa using h
theorem BlkF.alloc {w : World} {g : Nat} {zs : List Int} (h : BlkF w g zs) (o : Obj) : BlkF (w.alloc o) g zs := (Below.heap_alloc w o g h.lt).trans h
theorem BlkF.set_ {w : World} {g : Nat} {zs : List Int} (h : BlkF w g zs) (i : Nat) (u : Int) : BlkF (w.setCell ⟨g, i, none⟩ (.int .i64 u)) g (zs.set i u) := by
  unfold BlkF at h ⊢
  simp [World.setCell, Array.getElem?_modify, h]
theorem BlkF.far {w : World} {g : Nat} {zs : List Int} (h : BlkF w g zs) {p : Addr} (hp : g ≠ p.block) (u : Value) : BlkF (w.setCell p u) g zs := (Below.heap_setCell w p u g hp).trans h
theorem BlkF.below {w w' : World} {g : Nat} {zs : List Int} {B : Nat} (h : BlkF w g zs) (hb : Below B w w') (hg : g < B) : BlkF w' g zs := (hb.block g hg).trans h
theorem BlkF.mine {w : World} {g lo hi n : Nat} {zs : List Int} (h : BlkF w g zs) (h1 : lo ≤ g) (h2 : g < hi) (hn : zs.length = n) : Mine w lo hi (some ⟨g, 0, none⟩) n zs :=
  ⟨hn, fun _ => ⟨g, 0, rfl, h1, h2, fun j hj => by rw [Nat.zero_add]; exact ⟨h.cell (by omega), h.frozen j⟩⟩⟩

theorem infoF : (Tryd.prog.info? 83).map (fun i => (i.zero, i.size, i.bytes)) = some (some (.agg #[.int .i64 0, .int .i64 0]), 2, 16) := by kernel_rfl
theorem run_make_faces (n : Nat) (hn : n ≤ 1048576) (w : World) :
    (Instr.makeSlice 84 (.int .i64 (n : Int)) (.int .i64 (n : Int))).run Tryd.prog w = .ok (.slice (some ⟨w.heap.size, 0, none⟩) n n) (w.alloc (.cells ((List.replicate (n * 2) (0 : Int)).map (Value.int .i64)).toArray 83)) := by
  obtain ⟨i0, hi, hz0, hz1, hz2⟩ := info_parts infoF
  have hr := run_make (P := Tryd.prog) w 84 83 i0 _ Tryd.underlying84 hi hz0 .i64 .i64 n n (by omega) (by omega) (by rw [hz2]; omega) (by omega)
  simp only [Int.toNat_natCast] at hr
  have e : madeCells (Value.agg #[.int .i64 0, .int .i64 0]).cells (n * 2) = ((List.replicate (n * 2) (0 : Int)).map (Value.int .i64)).toArray := by
    apply Array.ext
    · simp [madeCells]
    · intro i h1 h2
      rcases (show i % 2 = 0 ∨ i % 2 = 1 from by omega) with h | h <;> simp [madeCells, Value.cells, h]
  rw [hz1, e] at hr
  exact hr

set_option maxHeartbeats 400000 in
theorem szF_any (A : Option Addr) (n c : Nat) (l : Int) (w : World) (hn : n ≤ maxLen) (h0 : 0 ≤ l) (h1 : l ≤ 1048576) :
    Calls Tryd.prog 131 #[.slice A n c, .int .i64 l] w fun e w' => e = .returned (.int .i64 (if l < n then -1 else l - n)) ∧ w = w' := by
  unfold maxLen at hn
  by_cases h : l < n
  all_goals
    go_enter Tryd.func131, Tryd.ntmps131
    go_wp2
    go_ret
    exact ⟨by simp, rfl⟩

set_option maxHeartbeats 400000 in
theorem toF1_any (x y : Int) (w : World) :
    Calls Tryd.prog 173 #[.agg #[.int .i64 x, .int .i64 y]] w fun e w' => e = .returned (.agg #[.int .i64 x, .int .i64 y]) ∧ Below w.heap.size w w' := by
  go_enter Tryd.func173, Tryd.ntmps173
  go_wp2
  refine bodyPost_ret (v := .agg #[.int .i64 x, .int .i64 y]) (by simp [results, Tryd.results173, go_sem]) rfl ⟨rfl, ?_⟩
  have q : ∀ a b : Nat, a ≤ a + b := fun a b => Nat.le_add_right a b
  first
    | exact al2 _ _ _
    | exact al3 _ _ _ _
    | exact (((al2 _ _ _).setCell (by dsimp only; omega) _).setCell (by dsimp only; omega) _)
    | exact ((al3 _ _ _ _).setCell (by dsimp only; omega) _).setCell (by dsimp only; omega) _
    | exact ((((al3 _ _ _ _).setCell (by dsimp only; omega) _).setCell (by dsimp only; omega) _).setCell (by dsimp only; omega) _).setCell (by dsimp only; omega) _

set_option maxHeartbeats 400000 in
theorem eqF1_any (x y : Int) (w : World) :
    Calls Tryd.prog 176 #[.agg #[.int .i64 x, .int .i64 y], .agg #[.int .i64 x, .int .i64 y]] w fun e w' => e = .returned (.bool true) ∧ Below w.heap.size w w' := by
  go_enter Tryd.func176, Tryd.ntmps176
  go_wp2
  go_ret
  exact ⟨rfl, by first | exact Below.refl _ _ | exact al2 _ _ _⟩

theorem part_set2 (zs : List Int) (k n : Nat) (h : zs.length = n * 2) (hk : k < n) : ((part zs (k * 2) (n * 2)).set (k * 2) (zs.getD (k * 2) 0)).set (k * 2 + 1) (zs.getD (k * 2 + 1) 0) = part zs ((k + 1) * 2) (n * 2) := by
  rw [part_set zs _ _ h (by omega), part_set zs _ _ h (by omega)]
  congr 1
  omega

set_option maxRecDepth 100000 in
set_option maxHeartbeats 1000000 in
theorem toF_any (A : Option Addr) (n c : Nat) (zs : List Int) (w : World) (h : Ints w w.heap.size A (n * 2) zs) (hn : n ≤ 1048576) :
    Calls Tryd.prog 133 #[.slice A n c] w fun e w' => e = .returned (.slice (some ⟨w.heap.size, 0, none⟩) n n) ∧ BlkF w' w.heap.size zs ∧ Below w.heap.size w w' := by
  have hl := h.1
  have hmk := run_make_faces n hn
  go_enter Tryd.func133, Tryd.ntmps133
  go_wp2
  go_loopw [4] (fun i wr => ∃ k : Nat, k ≤ n ∧ i = .int .i64 k ∧ BlkF wr w.heap.size (part zs (k * 2) (n * 2)) ∧ Below w.heap.size w wr) (fun i _ => n - (intOf i).toNat)
  case atStart => exact ⟨0, Nat.zero_le _, rfl, by rw [Nat.zero_mul, part_zero]; exact BlkF.zeros _ _, (Below.refl _ _).alloc (Nat.le_refl _) _⟩
  case round =>
    obtain ⟨k, hk, rfl, hblk, hbel⟩ := hrel
    have HB := Lib.hid hblk
    have HL := Lib.hid hbel
    have HH := Lib.hid h
    have Hl := Lib.hid hl
    have z0 : w.heap.size ≤ wr.heap.size := hbel.size
    have z1 : w.heap.size < wr.heap.size := hblk.lt
    clear hblk hbel h hl hmk
    have i0 : (0 : Int) ≤ (k : Int) := by omega
    by_cases hlt : k < n
    · obtain ⟨b, off, rfl, hb, hc⟩ := (HH.out.below HL.out).2 (by omega)
      have c0 := hc (k * 2) (by omega)
      have c1 := hc (k * 2 + 1) (by omega)
      rw [← Nat.add_assoc] at c1
      obtain ⟨x, hx⟩ : ∃ x, zs.getD (k * 2) 0 = x := ⟨_, rfl⟩
      obtain ⟨y, hy⟩ : ∃ y, zs.getD (k * 2 + 1) 0 = y := ⟨_, rfl⟩
      rw [hx] at c0
      rw [hy] at c1
      have HX := Lib.hid hx
      have HY := Lib.hid hy
      have i1 : (k : Int) < (n : Int) := by omega
      clear hc hx hy
      go_wp2_with fail
      refine (toF1_any x y _).mono ?_
      rintro e w1 ⟨rfl, hb1⟩
      have D1 := Lib.hid (HL.out.trans (hb1.mono z0))
      have B1 := Lib.hid (HB.out.below hb1 z1)
      have g0 := B1.out.cell (i := k * 2) (by rw [part_len _ _ _ Hl.out (by omega)]; omega)
      have g1 := B1.out.cell (i := k * 2 + 1) (by rw [part_len _ _ _ Hl.out (by omega)]; omega)
      have f0 := B1.out.frozen (k * 2)
      have f1 := B1.out.frozen (k * 2 + 1)
      clear hb1
      go_wp2
      go_roundw
      case rel => exact ⟨k + 1, by omega, by go_num, by rw [← part_set2 zs k n Hl.out hlt, HX.out, HY.out]; exact (B1.out.set_ _ _).set_ _ _, (D1.out.setCell (Nat.le_refl _) _).setCell (Nat.le_refl _) _⟩
      case measure => simp [intOf]; omega
    · obtain rfl : k = n := by omega
      have HF := Lib.hid (part_full zs (k * 2) Hl.out)
      have i1 : ¬ (k : Int) < (k : Int) := by omega
      go_wp2
      go_ret
      exact ⟨rfl, by rw [← HF.out]; exact HB.out, HL.out⟩

set_option maxHeartbeats 4000000 in
theorem eqF_any (A A' : Option Addr) (n c c' : Nat) (zs : List Int) (B B' : Nat) (w : World) (h : Ints w B A (n * 2) zs) (h' : Ints w B' A' (n * 2) zs) (hB : B ≤ w.heap.size) (hB' : B' ≤ w.heap.size) (hn : n ≤ 1048576) :
    Calls Tryd.prog 137 #[.slice A n c, .slice A' n c'] w fun e w' => e = .returned (.bool true) ∧ Below w.heap.size w w' := by
  have H := Lib.hid h
  have H' := Lib.hid h'
  clear h h'
  go_enter Tryd.func137, Tryd.ntmps137
  go_wp2
  go_loopw [5] (fun i wr => ∃ k : Nat, k ≤ n ∧ i = .int .i64 k ∧ Below w.heap.size w wr) (fun i _ => n - (intOf i).toNat)
  case atStart => exact ⟨0, Nat.zero_le _, rfl, Below.refl _ _⟩
  case round =>
    obtain ⟨k, hk, rfl, hbel⟩ := hrel
    have D := Lib.hid hbel
    have zD : w.heap.size ≤ wr.heap.size := hbel.size
    clear hbel
    have i0 : (0 : Int) ≤ (k : Int) := by omega
    by_cases hlt : k < n
    · obtain ⟨b, off, rfl, hb, hc⟩ := (H.out.below (D.out.mono hB)).2 (by omega)
      obtain ⟨b', off', rfl, hb', hc'⟩ := (H'.out.below (D.out.mono hB')).2 (by omega)
      have x0 := hc (k * 2) (by omega)
      have x1 := hc (k * 2 + 1) (by omega)
      have y0 := hc' (k * 2) (by omega)
      have y1 := hc' (k * 2 + 1) (by omega)
      rw [← Nat.add_assoc] at x1 y1
      obtain ⟨x, hx⟩ : ∃ x, zs.getD (k * 2) 0 = x := ⟨_, rfl⟩
      obtain ⟨y, hy⟩ : ∃ y, zs.getD (k * 2 + 1) 0 = y := ⟨_, rfl⟩
      rw [hx] at x0 y0
      rw [hy] at x1 y1
      have EQ := Lib.hid (fun (W : World) => eqF1_any x y W)
      have i1 : (k : Int) < (n : Int) := by omega
      clear hc hc' hx hy
      go_upto_region 6 with fail
      go_region_held3 (fun W => (W.cell? ⟨b, off + k * 2, none⟩ = some (.int .i64 x)) ∧ (W.cell? ⟨b, off + k * 2 + 1, none⟩ = some (.int .i64 y)) ∧ (W.cell? ⟨b', off' + k * 2, none⟩ = some (.int .i64 x)) ∧ (W.cell? ⟨b', off' + k * 2 + 1, none⟩ = some (.int .i64 y))) (go_keep)
        (first | (go_at_call 176; (refine (EQ.out _).mono ?_); rintro e w6 ⟨rfl, hb6'⟩; have hb6 := undrew hb6'; have B6 := Lib.hid hb6; have z6 := hb6.size; have e0 := (hb6.cell (p := ⟨b, off + k * 2, none⟩) (by dsimp only; omega)).trans x0; have e1 := (hb6.cell (p := ⟨b, off + k * 2 + 1, none⟩) (by dsimp only; omega)).trans x1; have e2 := (hb6.cell (p := ⟨b', off' + k * 2, none⟩) (by dsimp only; omega)).trans y0; have e3 := (hb6.cell (p := ⟨b', off' + k * 2 + 1, none⟩) (by dsimp only; omega)).trans y1; clear hb6 hb6'))
      all_goals
        go_wp2
        go_roundw
        case rel => exact ⟨k + 1, by omega, by go_num, D.out.trans (B6.out.mono zD)⟩
        case measure => simp [intOf]; omega
    · obtain rfl : k = n := by omega
      have i1 : ¬ (k : Int) < (k : Int) := by omega
      go_wp2
      go_ret
      exact ⟨rfl, D.out⟩

theorem marked_set2 (k : Int) (zs : List Int) {j n : Nat} (h : zs.length = n * 2) (hj : j < n) : ((marked k zs (j * 2)).set (j * 2) (k + 2 * j)).set (j * 2 + 1) (k + 2 * j + 1) = marked k zs ((j + 1) * 2) := by
  have e1 : k + 2 * (j : Int) = k + ((j * 2 : Nat) : Int) := by push_cast; omega
  have e2 : k + 2 * (j : Int) + 1 = k + ((j * 2 + 1 : Nat) : Int) := by push_cast; omega
  rw [e2, e1, marked_set k zs (by omega), marked_set k zs (by omega)]
  congr 1
  omega

set_option maxHeartbeats 1000000 in
theorem markF_any (A : Option Addr) (n c : Nat) (k : Int) (zs : List Int) (lo hi : Nat) (w : World) (h : Mine w lo hi A (n * 2) zs) (hn : n ≤ 1048576) (h0 : 0 ≤ k) (h1 : k ≤ 1099511627776) :
    Calls Tryd.prog 143 #[.slice A n c, .int .i64 k] w fun e w' => e = .returned (.int .i64 (k + 2 * n)) ∧ Mine w' lo hi A (n * 2) (marks k (n * 2)) ∧ Kept lo hi w w' := by
  have hl := Lib.hid h.len
  have H := Lib.hid h
  clear h
  go_enter Tryd.func143, Tryd.ntmps143
  go_wp2
  go_loopw [5, 1] (fun i m wr => ∃ j : Nat, j ≤ n ∧ i = .int .i64 j ∧ m = .int .i64 (k + 2 * j) ∧ Mine wr lo hi A (n * 2) (marked k zs (j * 2)) ∧ Kept lo hi w wr) (fun i _ _ => n - (intOf i).toNat)
  case atStart => exact ⟨0, Nat.zero_le _, rfl, by simp, by rw [Nat.zero_mul, marked_zero]; exact H.out, Kept.refl _ _ _⟩
  case round =>
    obtain ⟨j, hj, rfl, rfl, hown, hkept⟩ := hrel
    have HO := Lib.hid hown
    have HK := Lib.hid hkept
    have i0 : (0 : Int) ≤ (j : Int) := by omega
    by_cases hlt : j < n
    · obtain ⟨b, off, rfl, hlo, hhi, hc⟩ := hown.2 (by omega)
      obtain ⟨c0, f0⟩ := hc (j * 2) (by omega)
      obtain ⟨c1, f1⟩ := hc (j * 2 + 1) (by omega)
      rw [← Nat.add_assoc] at c1 f1
      have i1 : (j : Int) < (n : Int) := by omega
      clear hown hkept hc
      go_wp2
      go_roundw
      case rel => exact ⟨j + 1, by omega, by go_num, by go_num, by rw [← marked_set2 k zs hl.out hlt]; exact (HO.out.set_ (j := j * 2) (by omega) _).set_ (j := j * 2 + 1) (by omega) _, (HK.out.set_ hlo hhi _).set_ hlo hhi _⟩
      case measure => simp [intOf]; omega
    · obtain rfl : j = n := by omega
      have MF := Lib.hid (marked_full k zs hl.out)
      have i1 : ¬ (j : Int) < (j : Int) := by omega
      clear hown hkept
      go_wp2
      go_ret
      exact ⟨rfl, by rw [← MF.out]; exact HO.out, HK.out⟩

set_option maxHeartbeats 1000000 in
theorem heldF_any (A : Option Addr) (n c : Nat) (k : Int) (B : Nat) (w : World) (h : Ints w B A (n * 2) (marks k (n * 2))) (hn : n ≤ 1048576) (h0 : 0 ≤ k) (h1 : k ≤ 1099511627776) :
    Calls Tryd.prog 144 #[.slice A n c, .int .i64 k] w fun e w' => e = .returned (.int .i64 (k + 2 * n)) ∧ w = w' := by
  have H := Lib.hid h
  clear h
  go_enter Tryd.func144, Tryd.ntmps144
  go_wp2
  go_loop [5, 1] (fun i m => ∃ j : Nat, j ≤ n ∧ i = .int .i64 j ∧ m = .int .i64 (k + 2 * j)) (fun i _ => n - (intOf i).toNat)
  case atStart => exact ⟨0, Nat.zero_le _, rfl, by simp⟩
  case round =>
    obtain ⟨j, hj, rfl, rfl⟩ := hrel
    have i0 : (0 : Int) ≤ (j : Int) := by omega
    by_cases hlt : j < n
    · obtain ⟨b, off, rfl, hb, hc⟩ := H.out.2 (by omega)
      have c0 := hc (j * 2) (by omega)
      have c1 := hc (j * 2 + 1) (by omega)
      rw [marks_at k (by omega)] at c0 c1
      rw [← Nat.add_assoc] at c1
      have e1 : k + ((j * 2 : Nat) : Int) = k + 2 * (j : Int) := by push_cast; omega
      have e2 : k + ((j * 2 + 1 : Nat) : Int) = k + 2 * (j : Int) + 1 := by push_cast; omega
      rw [e1] at c0
      rw [e2] at c1
      have i1 : (j : Int) < (n : Int) := by omega
      clear hc e1 e2
      go_wp2
      go_round
      case rel => exact ⟨j + 1, by omega, by go_num, by go_num⟩
      case measure => simp [intOf]; omega
    · obtain rfl : j = n := by omega
      have i1 : ¬ (j : Int) < (j : Int) := by omega
      go_wp2
      go_ret
      exact ⟨rfl, rfl⟩

end Fc
end Go.Proofs.YtjendlfophdfeaaDoor
