/- DERIVED. The walk of Reader. -/
import Derived.Test.YtppanogpeengnabGreatDoorSo
namespace Go.Proofs.YtppanogpeengnabGreatDoor
open Go.RowKit L3
variable {Z : Nat → Option Obj}

theorem src_to {w w' : World} {v : Value} {zs : List Nat} (h : L2.SrcOf w v zs) (hb : Below w.heap.size w w') : L2.SrcOf w' v zs := by
  rcases h with h | ⟨ad, c, h1, h2⟩
  · exact Or.inl h
  · exact Or.inr ⟨ad, c, h1, fun j hj => by
      have h3 := h2 j hj
      rw [World.cell?_of_block (hb.block _ (World.block_lt_of_cell? w _ h3))]
      exact h3⟩
theorem dc_base {w : World} {x b b' q c g : Nat} (h : L2.Dc w x b [] q c g) (hb : b' ≠ x) : L2.Dc w x b' [] q c g := by
  obtain ⟨v, h1, h2⟩ := h.data
  refine ⟨⟨v, h1, ?_⟩, h.code, h.rng, h.thaw0, h.thaw1, h.thaw2, h.low, hb, h.byt, h.len⟩
  rcases h2 with h2 | ⟨o, c', _, h3, h4, _⟩
  · exact Or.inl h2
  · refine Or.inl ⟨by simp, some ⟨b, o, none⟩, c', ?_⟩
    rw [h4]; simp
/-- a coder that has read nothing -/
def RdN (w w' : World) (e : Ending) (K : List (Nat × List Tb)) (ad : Bool) (zs : List Nat) : Prop :=
  ∃ x bt L xd b, e = .returned (.tuple #[.pointer (some ⟨x, 0, none⟩), .int .i64 0]) ∧ CR zn w' w.heap.size x bt L ad 0 xd b zs 4 (L2.dFirst zs) 4294967295 ∧ Als K L ∧ Below w.heap.size w w'
/-- the coder's block is laid -/
theorem cr_new {w u v : World} {bt xd b : Nat} {ad : Bool} {L : List (Nat × List Tb)} {zs : List Nat} (h0 : 0 < w.heap.size) (hw : Below w.heap.size w v) (hs : St v w.heap.size bt L) (hd : Dk w.heap.size L) (ho : Okk L) (he : L2.Dc v xd b zs 4 (L2.dFirst zs) 4294967295) (hl : w.heap.size ≤ xd) (hz : zs ≠ [] → b < v.heap.size) (hx : ¬ Bs bt L xd) (hb : zs ≠ [] → ¬ Bs bt L b)
    (hu : u = v.alloc (.cells #[.pointer none, .pointer (some ⟨xd, 0, none⟩), .slice (some ⟨bt, 0, none⟩) 32 32, .bool ad, .int .i64 0] 40)) : ∃ b', CR zn u w.heap.size v.heap.size bt L ad 0 xd b' zs 4 (L2.dFirst zs) 4294967295 := by
  subst hu
  have hbb : Below v.heap.size v (v.alloc (.cells #[.pointer none, .pointer (some ⟨xd, 0, none⟩), .slice (some ⟨bt, 0, none⟩) 32 32, .bool ad, .int .i64 0] 40)) := (Below.refl _ _).alloc (Nat.le_refl _) _
  have h0v : 0 < v.heap.size := Nat.lt_of_lt_of_le h0 hw.size
  have key : ∀ b', b' ≠ v.heap.size → b' < v.heap.size → ¬ Bs bt L b' → L2.Dc v xd b' zs 4 (L2.dFirst zs) 4294967295 → CR zn (v.alloc (.cells #[.pointer none, .pointer (some ⟨xd, 0, none⟩), .slice (some ⟨bt, 0, none⟩) 32 32, .bool ad, .int .i64 0] 40)) w.heap.size v.heap.size bt L ad 0 xd b' zs 4 (L2.dFirst zs) 4294967295 := fun b' n1 n2 n3 hd' => by
    refine ⟨⟨by simp [go_sem], by simp [go_sem], by simp [go_sem], by simp [go_sem], by simp [go_sem], by simp [go_sem], by simp, hw.size, hs.to hbb, ho, fun e => ?_, ?_, ?_, hd, fun y o hy => by cases hy⟩, hd'.below hbb, L2.dFirst_ok, hl, Nat.lt_of_lt_of_le n2 hbb.size⟩
    · have := hs.low e; omega
    · rintro (e | e)
      · have := he.low; omega
      · omega
    · rintro b'' (e | e)
      · subst e; exact hx
      · subst e; exact n3
  by_cases e : zs = []
  · subst e
    refine ⟨0, key 0 (by omega) h0v (fun e => ?_) (dc_base he (by omega))⟩
    exact st_apart hs hd h0 e
  · exact ⟨b, key b (by have := hz e; omega) (hz e) (hb e) he⟩

set_option maxRecDepth 100000 in
set_option maxHeartbeats 1000000 in
theorem reader_ok {w : World} {lo bt : Nat} {K : List (Nat × List Tb)} {ad : Bool} {vb : Value} {zs : List Nat} (hsh : Sh w) (h00 : 0 < w.heap.size) (hs : St w lo bt K) (ho : Okk K) (hv : L2.SrcOf w vb zs) (hz : ∀ i, zs.getD i 0 < 256) (hl : zs.length ≤ 140737488355328) :
    Calls Tryz.prog 12 #[vb, .agg #[.slice (some ⟨bt, 0, none⟩) 32 32], .bool ad] w fun e w' => RdN w w' e K ad zs := by
  have HB : Hid (Below w.heap.size w (w.alloc (.cells #[.slice (some ⟨bt, 0, none⟩) 32 32] 29))) := (Below.refl _ _).alloc (Nat.le_refl _) _
  have c0 : (w.alloc (.cells #[.slice (some ⟨bt, 0, none⟩) 32 32] 29)).cell? ⟨w.heap.size, 0, none⟩ = some (.slice (some ⟨bt, 0, none⟩) 32 32) := by simp [go_sem]
  have HZ : Hid (w.heap.size < (w.alloc (.cells #[.slice (some ⟨bt, 0, none⟩) 32 32] 29)).heap.size) := by show _ < _; simp
  have HSt : Hid (∀ v, Below w.heap.size w v → St v lo bt K) := fun v hv => hs.to hv
  have HSh : Hid (∀ v, Below w.heap.size w v → Sh v) := fun v hv => hsh.to hv
  have HSr : Hid (∀ v, Below w.heap.size w v → L2.SrcOf v vb zs) := fun v hv' => src_to hv hv'
  have HO : Hid (Okk K) := ho
  have HBt : Hid (∀ i, zs.getD i 0 < 256) := hz
  have HLl : Hid (zs.length ≤ 140737488355328) := hl
  have H00 : Hid (0 < w.heap.size) := h00
  clear hsh hs ho hv hz hl h00
  go_enter Tryz.func12, Tryz.ntmps12
  go_wp2_with fail
  generalize (w.alloc (.cells #[.slice (some ⟨bt, 0, none⟩) 32 32] 29)) = V at *
  refine (scheck_ok (HSh.out _ HB.out) (HSt.out _ HB.out) HO.out).mono ?_
  rintro e w1 ⟨rfl, hb1⟩
  have HB1 : Hid (Below w.heap.size w w1) := HB.out.trans (hb1.mono (Nat.le_of_lt HZ.out))
  have d0 : w1.cell? ⟨w.heap.size, 0, none⟩ = some (.slice (some ⟨bt, 0, none⟩) 32 32) := by rw [newCell hb1 _ _ HZ.out]; exact c0
  have HZ1 : Hid (w.heap.size < w1.heap.size) := Nat.lt_of_lt_of_le HZ.out hb1.size
  clear hb1 c0
  go_wp2_with fail
  have HK : Hid (∀ v : World, Below w1.heap.size w1 v → v.cell? ⟨w.heap.size, 0, none⟩ = some (.slice (some ⟨bt, 0, none⟩) 32 32)) := fun v hv => by rw [newCell hv _ _ HZ1.out]; exact d0
  have HUp : Hid (∀ v : World, Below w1.heap.size w1 v → Below w.heap.size w v) := fun v hv => HB1.out.trans (hv.mono (Nat.le_of_lt HZ1.out))
  have HCp : Hid (∀ v : World, Below w1.heap.size w1 v → Calls Tryz.prog 22 #[.agg #[.slice (some ⟨bt, 0, none⟩) 32 32]] v fun e w' => Cset v w' e K) := fun v hv => scopy_ok (HSh.out _ (HUp.out v hv)) (HSt.out _ (HUp.out v hv)) HO.out
  have HRd : Hid (∀ v : World, Below w1.heap.size w1 v → Calls Tryz.prog 27 #[vb] v fun e w' => ∃ x, e = .returned (.pointer (some ⟨x, 0, none⟩)) ∧ L2.DcMade v w' zs x) := fun v hv => L2.read_core (HSr.out _ (HUp.out v hv)) HBt.out HLl.out
  have hbd : Below w1.heap.size w1 w1.drew := below_drew (Below.refl _ _)
  have HA : Hid (∀ wA wB xd b2 L2', L2.DcMade w1.drew wA zs xd → St wB wA.heap.size b2 L2' → Als K L2' → Dk wA.heap.size L2' → Below wA.heap.size wA wB → RdN w (wB.alloc (.cells #[.pointer none, .pointer (some ⟨xd, 0, none⟩), .slice (some ⟨b2, 0, none⟩) 32 32, .bool ad, .int .i64 0] 40)) (.returned (.tuple #[.pointer (some ⟨wB.heap.size, 0, none⟩), .int .i64 0])) K ad zs) := fun wA wB xd b2 L2' h1 h3 h4 h5 h6 => by
    obtain ⟨b, hdc, hx, hb', hzz, h2⟩ := h1
    have z1 := HZ1.out
    have z2 := h2.size
    have z3 : w1.drew.heap.size = w1.heap.size := rfl
    have z4 := hdc.low
    have hb : Below w.heap.size w wB := (HUp.out _ (hbd.trans (h2.mono (by omega)))).trans (h6.mono (by omega))
    obtain ⟨b', hcr⟩ := cr_new (ad := ad) H00.out hb (h3.weak (by omega)) (h5.weak (by omega)) (HO.out.als h4) (hdc.below h6) (by omega) (fun e => Nat.lt_of_lt_of_le (hzz e) h6.size) (st_apart h3 h5 z4) (fun e => st_apart h3 h5 (hzz e)) rfl
    exact ⟨wB.heap.size, b2, L2', xd, b', rfl, hcr, h4, to_alloc hb _⟩
  have HB2 : Hid (∀ wA wB xd b2 L2', St wB w1.drew.heap.size b2 L2' → Als K L2' → Dk w1.drew.heap.size L2' → Below w1.drew.heap.size w1.drew wB → L2.DcMade wB wA zs xd → RdN w (wA.alloc (.cells #[.pointer none, .pointer (some ⟨xd, 0, none⟩), .slice (some ⟨b2, 0, none⟩) 32 32, .bool ad, .int .i64 0] 40)) (.returned (.tuple #[.pointer (some ⟨wA.heap.size, 0, none⟩), .int .i64 0])) K ad zs) := fun wA wB xd b2 L2' h3 h4 h5 h6 h1 => by
    obtain ⟨b, hdc, hx, hb', hzz, h2⟩ := h1
    have z1 := HZ1.out
    have z2 := h6.size
    have z3 : w1.drew.heap.size = w1.heap.size := rfl
    have hb : Below w.heap.size w wA := (HUp.out _ (hbd.trans (h6.mono (by omega)))).trans (h2.mono (by omega))
    obtain ⟨b'', hcr⟩ := cr_new (ad := ad) H00.out hb ((h3.to h2).weak (by omega)) (h5.weak (by omega)) (HO.out.als h4) hdc (by omega) hzz (fun e => by have := h3.low e; omega) (fun _ e => by have := h3.low e; omega) rfl
    exact ⟨wA.heap.size, b2, L2', xd, b'', rfl, hcr, h4, to_alloc hb _⟩
  go_region_held3 (fun v => v.cell? ⟨w.heap.size, 0, none⟩ = some (.slice (some ⟨bt, 0, none⟩) 32 32))
    ((exact HK.out _ (by first | assumption | (refine to_alloc ?_ _; assumption))))
    (first
      | (go_at_call 27; refine (HRd.out _ (by assumption)).mono ?_; rintro e wA ⟨xd, rfl, hdA⟩; have hbA := Exists.elim hdA (fun _ h => h.2.2.2.2); have hzA := below_to (by assumption) hbA)
      | (go_at_call 22; refine (HCp.out _ (by assumption)).mono ?_; rintro e wB ⟨b2, L2', rfl, hs2, ha2, hd2, hbB⟩; have hzB := below_to (by assumption) hbB))
  all_goals
    go_wp2_with fail
    refine bodyPost_ret (v := .tuple #[.pointer (some ⟨_, 0, none⟩), .int .i64 0]) (by simp [results, Tryz.results12, go_sem]; rfl) rfl ?_
    first
      | exact HA.out _ _ _ _ _ hdA hs2 ha2 hd2 hbB
      | exact HB2.out _ _ _ _ _ hs2 ha2 hd2 hbB hdA

end Go.Proofs.YtppanogpeengnabGreatDoor
