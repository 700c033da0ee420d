/- The kind of a move: the program's tietzeKindOf. No condition but those that each theorem names. -/
import Derived.Test.YtjommpdblbbkdaaTzE
namespace Go.Proofs.Ytjommpdblbbkdaa
open Go.RowKit

/-- A box with four cells. -/
def BoxT (W : World) (b : Nat) (x y z u : Value) : Prop := W.cell? ⟨b, 0, none⟩ = some x ∧ W.cell? ⟨b, 1, none⟩ = some y ∧ W.cell? ⟨b, 2, none⟩ = some z ∧ W.cell? ⟨b, 3, none⟩ = some u
theorem BoxT.new (w : World) (ty : TypeId) (x y z u : Value) : BoxT (w.alloc (Obj.cells #[x, y, z, u] ty)) w.heap.size x y z u := by
  refine ⟨?_, ?_, ?_, ?_⟩ <;> simp [go_sem]
theorem BoxT.below {B : Nat} {w w' : World} {b : Nat} {x y z u : Value} (h : BoxT w b x y z u) (hb : Below B w w') (hB : b < B) : BoxT w' b x y z u :=
  ⟨(hb.cell (p := ⟨b, 0, none⟩) hB).trans h.1, (hb.cell (p := ⟨b, 1, none⟩) hB).trans h.2.1, (hb.cell (p := ⟨b, 2, none⟩) hB).trans h.2.2.1, (hb.cell (p := ⟨b, 3, none⟩) hB).trans h.2.2.2⟩
theorem BoxT.kept {w w' : World} {lo hi g : Nat} {x y z u : Value} (h : BoxT w g x y z u) (hk : Kept lo hi w w') (hg : g < w.heap.size) (hn : ¬ (lo ≤ g ∧ g < hi)) : BoxT w' g x y z u :=
  ⟨(World.cell?_of_block (a := ⟨g, 0, none⟩) (hk.block g hg hn)).trans h.1, (World.cell?_of_block (a := ⟨g, 1, none⟩) (hk.block g hg hn)).trans h.2.1, (World.cell?_of_block (a := ⟨g, 2, none⟩) (hk.block g hg hn)).trans h.2.2.1, (World.cell?_of_block (a := ⟨g, 3, none⟩) (hk.block g hg hn)).trans h.2.2.2⟩

set_option maxHeartbeats 4000000 in
theorem kind_inv (K I J : Int) (Aw : Option Addr) (nw cw : Nat) (w : World) (hK : K = 1) :
    Calls Try.prog 40 #[.agg #[.int .i64 K, .int .i64 I, .int .i64 J, .slice Aw nw cw]] w fun e w' => e = .returned (.tuple #[.iface 86 (.agg #[.int .i64 I]), .bool true]) ∧ Below w.heap.size w w' := by
  subst hK
  have D := Lib.hid (al1 w (Obj.cells #[.int .i64 1, .int .i64 I, .int .i64 J, .slice Aw nw cw] 36))
  go_enter Try.func40, Try.ntmps40
  go_wp2
  refine bodyPost_ret (v := .tuple #[.iface 86 (.agg #[.int .i64 I]), .bool true]) (by simp [results, Try.results40, go_sem]) rfl ?_
  exact ⟨rfl, D.out⟩

set_option maxHeartbeats 4000000 in
theorem kind_rot (K I J : Int) (Aw : Option Addr) (nw cw : Nat) (w : World) (hK : K = 2) :
    Calls Try.prog 40 #[.agg #[.int .i64 K, .int .i64 I, .int .i64 J, .slice Aw nw cw]] w fun e w' => e = .returned (.tuple #[.iface 87 (.agg #[.int .i64 I]), .bool true]) ∧ Below w.heap.size w w' := by
  subst hK
  have D := Lib.hid (al1 w (Obj.cells #[.int .i64 2, .int .i64 I, .int .i64 J, .slice Aw nw cw] 36))
  go_enter Try.func40, Try.ntmps40
  go_wp2
  refine bodyPost_ret (v := .tuple #[.iface 87 (.agg #[.int .i64 I]), .bool true]) (by simp [results, Try.results40, go_sem]) rfl ?_
  exact ⟨rfl, D.out⟩

set_option maxHeartbeats 4000000 in
theorem kind_mul (K I J : Int) (Aw : Option Addr) (nw cw : Nat) (w : World) (hK : K = 3) :
    Calls Try.prog 40 #[.agg #[.int .i64 K, .int .i64 I, .int .i64 J, .slice Aw nw cw]] w fun e w' => e = .returned (.tuple #[.iface 89 (.agg #[.int .i64 I, .int .i64 J]), .bool true]) ∧ Below w.heap.size w w' := by
  subst hK
  have D := Lib.hid (al1 w (Obj.cells #[.int .i64 3, .int .i64 I, .int .i64 J, .slice Aw nw cw] 36))
  go_enter Try.func40, Try.ntmps40
  go_wp2
  refine bodyPost_ret (v := .tuple #[.iface 89 (.agg #[.int .i64 I, .int .i64 J]), .bool true]) (by simp [results, Try.results40, go_sem]) rfl ?_
  exact ⟨rfl, D.out⟩

set_option maxHeartbeats 4000000 in
theorem kind_drop (K I J : Int) (Aw : Option Addr) (nw cw : Nat) (w : World) (hK : K = 4) :
    Calls Try.prog 40 #[.agg #[.int .i64 K, .int .i64 I, .int .i64 J, .slice Aw nw cw]] w fun e w' => e = .returned (.tuple #[.iface 81 (.agg #[.int .i64 I]), .bool true]) ∧ Below w.heap.size w w' := by
  subst hK
  have D := Lib.hid (al1 w (Obj.cells #[.int .i64 4, .int .i64 I, .int .i64 J, .slice Aw nw cw] 36))
  go_enter Try.func40, Try.ntmps40
  go_wp2
  refine bodyPost_ret (v := .tuple #[.iface 81 (.agg #[.int .i64 I]), .bool true]) (by simp [results, Try.results40, go_sem]) rfl ?_
  exact ⟨rfl, D.out⟩

set_option maxHeartbeats 4000000 in
theorem kind_rem (K I J : Int) (Aw : Option Addr) (nw cw : Nat) (w : World) (hK : K = 5) :
    Calls Try.prog 40 #[.agg #[.int .i64 K, .int .i64 I, .int .i64 J, .slice Aw nw cw]] w fun e w' => e = .returned (.tuple #[.iface 83 (.agg #[.int .i64 I, .int .i64 J]), .bool true]) ∧ Below w.heap.size w w' := by
  subst hK
  have D := Lib.hid (al1 w (Obj.cells #[.int .i64 5, .int .i64 I, .int .i64 J, .slice Aw nw cw] 36))
  go_enter Try.func40, Try.ntmps40
  go_wp2
  refine bodyPost_ret (v := .tuple #[.iface 83 (.agg #[.int .i64 I, .int .i64 J]), .bool true]) (by simp [results, Try.results40, go_sem]) rfl ?_
  exact ⟨rfl, D.out⟩

set_option maxHeartbeats 4000000 in
theorem kind_add (K I J : Int) (Aw : Option Addr) (nw cw : Nat) (w : World) (hK : K = 6) :
    Calls Try.prog 40 #[.agg #[.int .i64 K, .int .i64 I, .int .i64 J, .slice Aw nw cw]] w fun e w' => e = .returned (.tuple #[.iface 91 (.agg #[.slice Aw nw cw]), .bool true]) ∧ Below w.heap.size w w' := by
  subst hK
  have D := Lib.hid (al1 w (Obj.cells #[.int .i64 6, .int .i64 I, .int .i64 J, .slice Aw nw cw] 36))
  go_enter Try.func40, Try.ntmps40
  go_wp2
  refine bodyPost_ret (v := .tuple #[.iface 91 (.agg #[.slice Aw nw cw]), .bool true]) (by simp [results, Try.results40, go_sem]) rfl ?_
  exact ⟨rfl, D.out⟩

set_option maxHeartbeats 4000000 in
theorem kind_no (K I J : Int) (Aw : Option Addr) (nw cw : Nat) (w : World) (hK : ¬ (1 ≤ K ∧ K ≤ 6)) :
    Calls Try.prog 40 #[.agg #[.int .i64 K, .int .i64 I, .int .i64 J, .slice Aw nw cw]] w fun e w' => e = .returned (.tuple #[.nilIface, .bool false]) ∧ Below w.heap.size w w' := by
  have t1 : ((K == 1) : Bool) = false := by simp; omega
  have t2 : ((K == 2) : Bool) = false := by simp; omega
  have t3 : ((K == 3) : Bool) = false := by simp; omega
  have t4 : ((K == 4) : Bool) = false := by simp; omega
  have t5 : ((K == 5) : Bool) = false := by simp; omega
  have t6 : ((K == 6) : Bool) = false := by simp; omega
  have D := Lib.hid (al1 w (Obj.cells #[.int .i64 K, .int .i64 I, .int .i64 J, .slice Aw nw cw] 36))
  go_enter Try.func40, Try.ntmps40
  go_wp2
  refine bodyPost_ret (v := .tuple #[.nilIface, .bool false]) (by simp [results, Try.results40, go_sem]) rfl ?_
  exact ⟨rfl, D.out⟩

end Go.Proofs.Ytjommpdblbbkdaa
