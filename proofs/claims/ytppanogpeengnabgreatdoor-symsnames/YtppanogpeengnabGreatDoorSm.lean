/- DERIVED. The walk of Writer. -/
import Derived.Test.YtppanogpeengnabGreatDoorSl
namespace Go.Proofs.YtppanogpeengnabGreatDoor
open Go.RowKit L3

theorem en_base {w : World} {B B' x low g : Nat} (h : L2.En w B x (.slice none 0 0) [] low g) (hb : B' ≤ x) : L2.En w B' x (.slice none 0 0) [] low g :=
  ⟨h.data, World.ownsRow_nil _ _ _ _, h.apart, h.low, h.rng, h.thaw0, h.thaw1, h.thaw2, ⟨hb, h.lies.2⟩, h.byt⟩
theorem en_to {w w' : World} {B x low g : Nat} (h : L2.En w B x (.slice none 0 0) [] low g) (hb : Below w.heap.size w w') : L2.En w' B x (.slice none 0 0) [] low g :=
  ⟨by rw [newCell hb _ _ h.lies.2]; exact h.data, World.ownsRow_nil _ _ _ _, h.apart, by rw [newCell hb _ _ h.lies.2]; exact h.low, by rw [newCell hb _ _ h.lies.2]; exact h.rng, by rw [newFrozen hb _ _ h.lies.2]; exact h.thaw0, by rw [newFrozen hb _ _ h.lies.2]; exact h.thaw1, by rw [newFrozen hb _ _ h.lies.2]; exact h.thaw2, ⟨h.lies.1, Nat.lt_of_lt_of_le h.lies.2 hb.size⟩, h.byt⟩

set_option maxRecDepth 100000 in
set_option maxHeartbeats 1000000 in
theorem writer_ok {w : World} {lo bt : Nat} {K : List (Nat × List Tb)} {ad : Bool} (hsh : Sh w) (hs : St w lo bt K) (ho : Okk K) :
    Calls Tryz.prog 13 #[.agg #[.slice (some ⟨bt, 0, none⟩) 32 32], .bool ad] w fun e w' => WrN w w' e K ad := by
  have HB : Hid (Below w.heap.size w (w.alloc (.cells #[.slice (some ⟨bt, 0, none⟩) 32 32] 29))) := (Below.refl _ _).alloc (Nat.le_refl _) _
  have c0 : (w.alloc (.cells #[.slice (some ⟨bt, 0, none⟩) 32 32] 29)).cell? ⟨w.heap.size, 0, none⟩ = some (.slice (some ⟨bt, 0, none⟩) 32 32) := by simp [go_sem]
  have HZ : Hid (w.heap.size < (w.alloc (.cells #[.slice (some ⟨bt, 0, none⟩) 32 32] 29)).heap.size) := by show _ < _; simp
  have HSt : Hid (∀ v, Below w.heap.size w v → St v lo bt K) := fun v hv => hs.to hv
  have HSh : Hid (∀ v, Below w.heap.size w v → Sh v) := fun v hv => hsh.to hv
  have HO : Hid (Okk K) := ho
  clear hsh hs ho
  go_enter Tryz.func13, Tryz.ntmps13
  go_wp2_with fail
  generalize (w.alloc (.cells #[.slice (some ⟨bt, 0, none⟩) 32 32] 29)) = V at *
  refine (scheck_ok (HSh.out _ HB.out) (HSt.out _ HB.out) HO.out).mono ?_
  rintro e w1 ⟨rfl, hb1⟩
  have HB1 : Hid (Below w.heap.size w w1) := HB.out.trans (hb1.mono (Nat.le_of_lt HZ.out))
  have d0 : w1.cell? ⟨w.heap.size, 0, none⟩ = some (.slice (some ⟨bt, 0, none⟩) 32 32) := by rw [newCell hb1 _ _ HZ.out]; exact c0
  have HZ1 : Hid (w.heap.size < w1.heap.size) := Nat.lt_of_lt_of_le HZ.out hb1.size
  clear hb1 c0
  go_wp2_with fail
  have HK : Hid (∀ v : World, Below w1.heap.size w1 v → v.cell? ⟨w.heap.size, 0, none⟩ = some (.slice (some ⟨bt, 0, none⟩) 32 32)) := fun v hv => by rw [newCell hv _ _ HZ1.out]; exact d0
  have HCp : Hid (∀ v : World, Below w1.heap.size w1 v → Calls Tryz.prog 22 #[.agg #[.slice (some ⟨bt, 0, none⟩) 32 32]] v fun e w' => Cset v w' e K) := fun v hv => scopy_ok (HSh.out _ (HB1.out.trans (hv.mono (Nat.le_of_lt HZ1.out)))) (HSt.out _ (HB1.out.trans (hv.mono (Nat.le_of_lt HZ1.out)))) HO.out
  have hbd : Below w1.heap.size w1 w1.drew := below_drew (Below.refl _ _)
  have HA : Hid (∀ wA wB b2 L2', L2.En wA w1.drew.heap.size w1.drew.heap.size (.slice none 0 0) [] 0 4294967295 → Below w1.drew.heap.size w1.drew wA → St wB wA.heap.size b2 L2' → Als K L2' → Dk wA.heap.size L2' → Below wA.heap.size wA wB → WrN w (wB.alloc (.cells #[.pointer (some ⟨w1.drew.heap.size, 0, none⟩), .pointer none, .slice (some ⟨b2, 0, none⟩) 32 32, .bool ad, .int .i64 0] 40)) (.returned (.tuple #[.pointer (some ⟨wB.heap.size, 0, none⟩), .int .i64 0])) K ad) := fun wA wB b2 L2' h1 h2 h3 h4 h5 h6 => by
    have z1 := HZ1.out
    have z2 := h2.size
    have z3 : w1.drew.heap.size = w1.heap.size := rfl
    have hb : Below w.heap.size w wB := (HB1.out.trans ((hbd.trans (h2.mono (by omega))).mono (Nat.le_of_lt z1))).trans (h6.mono (by omega))
    exact ⟨wB.heap.size, b2, L2', _, rfl, cw_new hb (h3.weak (by omega)) (h5.weak (by omega)) (HO.out.als h4) (en_base (en_to h1 h6) (by omega)) (st_apart h3 h5 h1.lies.2) rfl, h4, to_alloc hb _⟩
  have HB2 : Hid (∀ wA wB b2 L2', St wB w1.drew.heap.size b2 L2' → Als K L2' → Dk w1.drew.heap.size L2' → Below w1.drew.heap.size w1.drew wB → L2.En wA wB.heap.size wB.heap.size (.slice none 0 0) [] 0 4294967295 → Below wB.heap.size wB wA → WrN w (wA.alloc (.cells #[.pointer (some ⟨wB.heap.size, 0, none⟩), .pointer none, .slice (some ⟨b2, 0, none⟩) 32 32, .bool ad, .int .i64 0] 40)) (.returned (.tuple #[.pointer (some ⟨wA.heap.size, 0, none⟩), .int .i64 0])) K ad) := fun wA wB b2 L2' h3 h4 h5 h6 h1 h2 => by
    have z1 := HZ1.out
    have z2 := h6.size
    have z3 : w1.drew.heap.size = w1.heap.size := rfl
    have hb : Below w.heap.size w wA := (HB1.out.trans ((hbd.trans (h6.mono (by omega))).mono (Nat.le_of_lt z1))).trans (h2.mono (by omega))
    exact ⟨wA.heap.size, b2, L2', _, rfl, cw_new hb ((h3.to h2).weak (by omega)) (h5.weak (by omega)) (HO.out.als h4) (en_base h1 (by omega)) (fun e => by have := h3.low e; omega) rfl, h4, to_alloc hb _⟩
  go_region_held3 (fun v => v.cell? ⟨w.heap.size, 0, none⟩ = some (.slice (some ⟨bt, 0, none⟩) 32 32))
    ((exact HK.out _ (by first | assumption | (refine to_alloc ?_ _; assumption))))
    (first
      | (go_at_call 28; refine (L2.new_any _).mono ?_; rintro e wA ⟨rfl, heA, hbA⟩; have hzA := below_to (by assumption) hbA)
      | (go_at_call 22; refine (HCp.out _ (by assumption)).mono ?_; rintro e wB ⟨b2, L2', rfl, hs2, ha2, hd2, hbB⟩; have hzB := below_to (by assumption) hbB))
  all_goals
    go_wp2_with fail
    refine bodyPost_ret (v := .tuple #[.pointer (some ⟨_, 0, none⟩), .int .i64 0]) (by simp [results, Tryz.results13, go_sem]; rfl) rfl ?_
    first
      | exact HA.out _ _ _ _ heA hbA hs2 ha2 hd2 hbB
      | exact HB2.out _ _ _ _ hs2 ha2 hd2 hbB heA hbA

end Go.Proofs.YtppanogpeengnabGreatDoor
