/- DERIVED. A coder that writes: Count, Set, Bytes; Writer. -/
import Derived.Test.YtppanogpeengnabGreatDoorSj
namespace Go.Proofs.YtppanogpeengnabGreatDoor
open Go.RowKit L3
variable {Z : Nat → Option Obj}

theorem count_w {w : World} {lo x bt : Nat} {K : List (Nat × List Tb)} {ad : Bool} {cn : Int} {xe : Nat} {d : Value} {T g k : Nat} (h : CW Z w lo x bt K ad cn xe d T g k) :
    Calls Tryz.prog 9 #[.pointer (some ⟨x, 0, none⟩)] w fun e w' => e = .returned (.int .i64 cn) ∧ w' = w := by
  have q0 := h.co.o
  have q4 := h.co.c
  clear h
  go_enter Tryz.func9, Tryz.ntmps9
  go_wp2_with fail
  refine (none_w q0).mono ?_
  rintro e w1 ⟨rfl, rfl⟩
  go_wp2_with fail
  go_ret
  exact ⟨rfl, rfl⟩
/-- a set that is answered -/
def SetN (w w' : World) (e : Ending) (K : List (Nat × List Tb)) : Prop := ∃ bt L, e = .returned (.tuple #[.agg #[.slice (some ⟨bt, 0, none⟩) 32 32], .int .i64 0]) ∧ St w' w.heap.size bt L ∧ Als K L ∧ Dk w.heap.size L ∧ Below w.heap.size w w'
theorem St.weak {w : World} {lo lo' bt : Nat} {K : List (Nat × List Tb)} (h : St w lo bt K) (hl : lo' ≤ lo) : St w lo' bt K :=
  ⟨Nat.le_trans hl h.blo, h.blt, h.bth, h.tl, h.hd, fun p hp => ⟨Nat.le_trans hl (h.lie p hp).1, (h.lie p hp).2⟩, h.inj, h.th, h.c0, h.c1, h.sl, h.ap⟩
theorem Dk.weak {B B' : Nat} {K : List (Nat × List Tb)} (h : Dk B K) (hl : B' ≤ B) : Dk B' K := fun p hp => ⟨Nat.le_trans hl (h p hp).1, fun t ht b o h1 h2 => Nat.le_trans hl ((h p hp).2 t ht b o h1 h2)⟩
set_option maxRecDepth 100000 in
set_option maxHeartbeats 400000 in
theorem set_any {w : World} {lo x bt : Nat} {po pi : Value} {K : List (Nat × List Tb)} {ad : Bool} {cn : Int} {E : Nat → Prop} (h : Co Z w lo x po pi bt K ad cn E) (hsh : Sh w)
    (hno : ∀ u : World, Below w.heap.size w u → Calls Tryz.prog 19 #[.pointer (some ⟨x, 0, none⟩)] u fun e w' => e = .returned (.bool false) ∧ w' = u) :
    Calls Tryz.prog 6 #[.pointer (some ⟨x, 0, none⟩)] w fun e w' => SetN w w' e K := by
  have HC : Hid (∀ v, Below w.heap.size w v → Co Z v lo x po pi bt K ad cn E) := fun v hv => h.to hv
  have HSh : Hid (∀ v, Below w.heap.size w v → Sh v) := fun v hv => hsh.to hv
  have HN : Hid (∀ u : World, Below w.heap.size w u → Calls Tryz.prog 19 #[.pointer (some ⟨x, 0, none⟩)] u fun e w' => e = .returned (.bool false) ∧ w' = u) := hno
  have HX : Hid (x < w.heap.size) := h.low
  clear h hsh hno
  go_enter Tryz.func6, Tryz.ntmps6
  go_wp2_with fail
  have HB1 : Hid (Below w.heap.size w (w.alloc (.cells #[.slice none 0 0] 29))) := (Below.refl _ _).alloc (Nat.le_refl _) _
  have HZ : Hid (w.heap.size < (w.alloc (.cells #[.slice none 0 0] 29)).heap.size) := by show _ < _; simp
  have c0 : (w.alloc (.cells #[.slice none 0 0] 29)).cell? ⟨w.heap.size, 0, none⟩ = some (.slice none 0 0) := by simp [go_sem]
  have c1 : (w.alloc (.cells #[.slice none 0 0] 29)).frozen? ⟨w.heap.size, 0, none⟩ = false := by simp [go_sem]
  generalize (w.alloc (.cells #[.slice none 0 0] 29)) = V at *
  refine (HN.out _ HB1.out).mono ?_
  rintro e w1 ⟨rfl, rfl⟩
  have q2 := (HC.out _ HB1.out).t
  go_wp2_with fail
  refine (scopy_ok (HSh.out _ HB1.out) (HC.out _ HB1.out).st (HC.out _ HB1.out).ok).mono ?_
  rintro e w2 ⟨b2, L2', rfl, hs2, ha2, hd2, hb2⟩
  have d0 : w2.cell? ⟨w.heap.size, 0, none⟩ = some (.slice none 0 0) := by rw [newCell hb2 _ _ HZ.out]; exact c0
  have d1 : w2.frozen? ⟨w.heap.size, 0, none⟩ = false := by rw [newFrozen hb2 _ _ HZ.out]; exact c1
  have HW : Hid (w.heap.size < w1.heap.size) := HZ.out
  have HS2 : Hid (St w2 w1.heap.size b2 L2') := hs2
  have HA2 : Hid (Als K L2') := ha2
  have HD2 : Hid (Dk w1.heap.size L2') := hd2
  have HB2 : Hid (Below w.heap.size w w2) := HB1.out.trans (hb2.mono (Nat.le_of_lt HZ.out))
  clear hs2 ha2 hd2 hb2 c0 c1 q2
  go_wp2_with fail
  have HS3 : Hid (St (w2.setCell ⟨w.heap.size, 0, none⟩ (.slice (some ⟨b2, 0, none⟩) 32 32)) w.heap.size b2 L2') := by
    refine ((HS2.out.ke (P := fun b => b = w.heap.size) (Ke.set _ _ _ _ rfl) ?_).weak (Nat.le_of_lt HW.out))
    rintro b rfl hb
    rcases hb with e | ⟨p, hp, e | ⟨t, ht, h1, o, h2⟩⟩
    · have := HS2.out.blo; have := HW.out; omega
    · have := (HS2.out.lie p hp).1; have := HW.out; omega
    · have := (HD2.out p hp).2 t ht _ o h2 h1; have := HW.out; omega
  refine bodyPost_ret (v := .tuple #[.agg #[.slice (some ⟨b2, 0, none⟩) 32 32], .int .i64 0]) (by simp [results, Tryz.results6, go_sem, d0]) rfl ?_
  exact ⟨b2, L2', rfl, HS3.out, HA2.out, HD2.out.weak (Nat.le_of_lt HW.out), below_set HB2.out (by simp) _⟩
theorem set_w {w : World} {lo x bt : Nat} {K : List (Nat × List Tb)} {ad : Bool} {cn : Int} {xe : Nat} {d : Value} {T g k : Nat} (h : CW Z w lo x bt K ad cn xe d T g k) (hsh : Sh w) :
    Calls Tryz.prog 6 #[.pointer (some ⟨x, 0, none⟩)] w fun e w' => SetN w w' e K := set_any h.co hsh fun _ hu => none_w (h.co.to hu).o
theorem bytes_w {w : World} {lo x bt : Nat} {K : List (Nat × List Tb)} {ad : Bool} {cn : Int} {xe : Nat} {d : Value} {T g k : Nat} (h : CW Z w lo x bt K ad cn xe d T g k) (hkb : k ≤ 1099511626000) :
    Calls Tryz.prog 7 #[.pointer (some ⟨x, 0, none⟩)] w fun e w' => ∃ v, e = .returned (.tuple #[v, .int .i64 0]) ∧ L2.ByNew w w' v T k := by
  have q0 := h.co.o
  have HC : Hid (Calls Tryz.prog 23 #[.pointer (some ⟨xe, 0, none⟩)] w fun e w' => ∃ v, e = .returned v ∧ L2.ByNew w w' v T k) := L2.bytes_ens h.en h.ev hkb
  clear h
  go_enter Tryz.func7, Tryz.ntmps7
  go_wp2_with fail
  refine (none_w q0).mono ?_
  rintro e w1 ⟨rfl, rfl⟩
  go_wp2_with fail
  refine (writes_w q0).mono ?_
  rintro e w2 ⟨rfl, rfl⟩
  go_wp2_with fail
  refine HC.out.mono ?_
  rintro e w3 ⟨v, rfl, hv⟩
  have HV : Hid (L2.ByNew w2 w3 v T k) := hv
  clear hv
  go_wp2_with fail
  go_ret2
  exact ⟨v, rfl, HV.out⟩

/-- a coder that has written nothing -/
def WrN (w w' : World) (e : Ending) (K : List (Nat × List Tb)) (ad : Bool) : Prop :=
  ∃ x bt L xe, e = .returned (.tuple #[.pointer (some ⟨x, 0, none⟩), .int .i64 0]) ∧ CW zn w' w.heap.size x bt L ad 0 xe (.slice none 0 0) 0 4294967295 0 ∧ Als K L ∧ Below w.heap.size w w'
theorem Okk.als {K L : List (Nat × List Tb)} (h : Okk K) (ha : Als K L) : Okk L := by
  refine ⟨ha.1.trans h.1, fun j q hq => ?_⟩
  have hj : j < K.length := by rw [← ha.1]; exact (List.getElem?_eq_some_iff.1 hq).1
  have hp := List.getElem?_eq_getElem hj
  obtain ⟨h1, h2⟩ := h.2 j _ hp
  obtain ⟨a1, a2⟩ := ha.2 j _ q hp hq
  refine ⟨a1.trans h1, fun t ht => ?_⟩
  obtain ⟨c, hc, rfl⟩ := List.getElem_of_mem ht
  have hcp : c < K[j].2.length := by rw [← a1]; exact hc
  obtain ⟨e1, e2⟩ := a2 c _ _ (List.getElem?_eq_getElem hcp) (List.getElem?_eq_getElem hc)
  obtain ⟨b1, b2⟩ := h2 _ (List.getElem_mem hcp)
  exact ⟨by rw [e1]; exact b1, by rw [e1, e2]; exact b2⟩
theorem st_apart {w : World} {lo bt b : Nat} {L : List (Nat × List Tb)} (h : St w lo bt L) (hd : Dk lo L) (hb : b < lo) : ¬ Bs bt L b := by
  rintro (e | ⟨p, hp, e | ⟨t, ht, h1, o, h2⟩⟩)
  · have := h.blo; omega
  · have := (h.lie p hp).1; omega
  · have := (hd p hp).2 t ht _ o h2 h1; omega
/-- the coder's block is laid -/
theorem cw_new {w u v : World} {bt xe : Nat} {ad : Bool} {L : List (Nat × List Tb)} (hw : Below w.heap.size w v) (hs : St v w.heap.size bt L) (hd : Dk w.heap.size L) (ho : Okk L) (he : L2.En v w.heap.size xe (.slice none 0 0) [] 0 4294967295) (hx : ¬ Bs bt L xe)
    (hu : u = v.alloc (.cells #[.pointer (some ⟨xe, 0, none⟩), .pointer none, .slice (some ⟨bt, 0, none⟩) 32 32, .bool ad, .int .i64 0] 40)) : CW zn u w.heap.size v.heap.size bt L ad 0 xe (.slice none 0 0) 0 4294967295 0 := by
  subst hu
  have hb : Below v.heap.size v (v.alloc (.cells #[.pointer (some ⟨xe, 0, none⟩), .pointer none, .slice (some ⟨bt, 0, none⟩) 32 32, .bool ad, .int .i64 0] 40)) := (Below.refl _ _).alloc (Nat.le_refl _) _
  have hen : L2.EnS v w.heap.size xe (.slice none 0 0) 0 4294967295 0 := ⟨[], 0, he, rfl, by simp [L2.pre], by omega⟩
  refine ⟨⟨by simp [go_sem], by simp [go_sem], by simp [go_sem], by simp [go_sem], by simp [go_sem], by simp [go_sem], by simp, hw.size, hs.to hb, ho, fun e => ?_, ?_, ?_, hd, fun y o hy => by cases hy⟩, hen.below hb, L2.Ev.first⟩
  · have := hs.low e; omega
  · rintro (e | e)
    · have := he.lies.2; omega
    · simp [Value.ownBlock] at e
  · rintro b (e | e)
    · subst e; exact hx
    · simp [Value.ownBlock] at e

end Go.Proofs.YtppanogpeengnabGreatDoor
