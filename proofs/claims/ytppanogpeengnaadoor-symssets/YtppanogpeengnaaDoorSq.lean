/- DERIVED. The walk of awake. -/
import Derived.Test.YtppanogpeengnaaDoorS3
import Derived.Test.YtppanogpeengnaaDoorL2LwA
namespace Go.Proofs.YtppanogpeengnaaDoor
open Go.RowKit L3

/-- a set that has the numbers of the first one -/
theorem als_default {K L : List (Nat × List Tb)} (hkl : K.length = 32) (hdq : ∀ (j : Nat) p, K[j]? = some p → Dq j p) (hal : Als K L) {j c : Nat} (hj : j < 32) (hc : c < sC j) :
    ∃ p s, L[j]? = some p ∧ p.2[c]? = some s ∧ s.C = dfC j ∧ s.n = 0 := by
  have hjK : j < K.length := by rw [hkl]; exact hj
  have hjL : j < L.length := by rw [hal.1, hkl]; exact hj
  have hp := List.getElem?_eq_getElem hjK
  have hq := List.getElem?_eq_getElem hjL
  obtain ⟨l1, l2⟩ := hal.2 j _ _ hp hq
  obtain ⟨d1, d2⟩ := hdq j _ hp
  have hcK : c < (K[j]).2.length := by rw [d1]; exact hc
  have hcL : c < (L[j]).2.length := by rw [l1, d1]; exact hc
  have hs := List.getElem?_eq_getElem hcK
  have ht := List.getElem?_eq_getElem hcL
  obtain ⟨e1, e2⟩ := l2 c _ _ hs ht
  obtain ⟨f1, f2⟩ := d2 _ (List.getElem_mem hcK)
  exact ⟨_, _, hq, ht, e1.trans f1, e2.trans f2⟩

theorem wake_put : L2.ePut 0 4294967295 0 (eb (dfC 2) 1) (ee (dfC 2) 1) = (2147467264, 2147500031, 0) := by decide +kernel
theorem wake_bits : eBs 2147467264 2147500031 0 5 3 3 = (3489644544, 268435456, 0) := by decide +kernel
theorem wake_pre : L2.pre [207, 255, 192] 4 = 3489644544 := by decide +kernel
theorem wake_bytes {w : World} {v : Value} {b : Nat} {zs : List Nat} (h : L2.By w v b zs 3489644544 0) : zs = [207, 255, 192] := by
  have hy : ∀ i, ([207, 255, 192] : List Nat).getD i 0 < 256 := fun i => by
    rcases i with _ | _ | _ | i <;> simp
  have hp := L2.pre_inj h.byt hy 4 (h.val.trans wake_pre.symm)
  have l1 := h.len
  have hall : ∀ i, zs.getD i 0 = ([207, 255, 192] : List Nat).getD i 0 := fun i => by
    by_cases hi : i < 4
    · exact hp i hi
    · rw [L2.getD_len zs (by omega), L2.getD_len _ (by simp; omega)]
  have hlen : zs.length = ([207, 255, 192] : List Nat).length := by
    rcases Nat.lt_trichotomy zs.length ([207, 255, 192] : List Nat).length with e | e | e
    · exact absurd ((hall 2).symm.trans (L2.getD_len zs (by simp at e; omega))) (by decide)
    · exact e
    · exact absurd ((hall _).trans (L2.getD_len _ (by omega))) (h.last (by omega))
  exact L2.list_eq_of_getD hlen (fun j _ => hall j)
theorem wake_first : L2.dFirst [207, 255, 192] = 3489644544 := by decide +kernel
theorem wake_fd {v : Nat} (h : L3.Fd (dfC 2) (L2.dVal 3489644544 4294967295) v) : v = 1 := by
  have hl : (dfC 2).length = 2 := by decide +kernel
  have he : ee (dfC 2) 0 ≤ L2.dVal 3489644544 4294967295 := by decide +kernel
  obtain ⟨h1, h2, h3⟩ := h
  rw [hl] at h1
  have h0 : v ≠ 0 := fun e => by subst e; omega
  omega
theorem wake_take : L2.dTake [207, 255, 192] 3489644544 4294967295 4 (eb (dfC 2) 1) (ee (dfC 2) 1) = (1342177280, 2147500031, 4) := by decide +kernel
theorem wake_read : (dBs [207, 255, 192] 4 1342177280 2147500031 3).1 = 5 := by decide +kernel

set_option maxRecDepth 100000 in
set_option maxHeartbeats 4000000 in
theorem awake_ok {w : World} (hsh : Sh w) : Calls Tryd.prog 21 #[] w fun e w' => e = .returned (.bool true) ∧ Below w.heap.size w w' := by
  have HSh : Hid (∀ v, Below w.heap.size w v → Sh v) := fun v hv => hsh.to hv
  have H0 : Hid (0 < w.heap.size) := hsh.low
  clear hsh
  go_enter Tryd.func21, Tryd.ntmps21
  go_wp2_with fail
  refine (default_any (HSh.out w (Below.refl _ _))).mono ?_
  rintro e w1 ⟨bt, K, rfl, hst, hkl, hdq, hdk, hb1⟩
  have HB1 : Hid (Below w.heap.size w w1) := hb1
  have HW : Hid (Calls Tryd.prog 11 #[.agg #[.slice (some ⟨bt, 0, none⟩) 32 32], .bool true] w1 fun e w' => WrN w1 w' e K true) := writer_ok (HSh.out _ hb1) hst (okk_default hkl hdq)
  have HD : Hid (∀ L, Als K L → ∃ p s, L[2]? = some p ∧ p.2[0]? = some s ∧ s.C = dfC 2) := fun L hL => by
    obtain ⟨p, s, h1, h2, h3, _⟩ := als_default hkl hdq hL (j := 2) (c := 0) (by omega) (by decide +kernel)
    exact ⟨p, s, h1, h2, h3⟩
  clear hst hkl hdq hdk hb1
  go_wp2_with fail
  refine HW.out.mono ?_
  rintro e w2 ⟨x, bt2, L, xe, rfl, hcw, hal, hb2⟩
  obtain ⟨p, s, hp, hs, hC⟩ := HD.out L hal
  have HB2 : Hid (Below w.heap.size w w2) := HB1.out.trans (hb2.mono HB1.out.size)
  have HL : Hid (w.heap.size ≤ w1.heap.size) := HB1.out.size
  have HS2 : Hid (Calls Tryd.prog 35 #[.pointer (some ⟨x, 0, none⟩), .int .i64 2, .int .i64 0, .int .i64 1] w2 fun e w' => e = .returned (.tuple #[.int .i64 1, .int .i64 0]) ∧ ∃ d' K', CW zn w' w1.heap.size x bt2 K' true 1 xe d' 2147467264 2147500031 0 ∧ Below w1.heap.size w2 w') := by
    have h := symbol_w hcw (HSh.out _ HB2.out) (by omega) (by omega) (by omega) (kk := 2) (c := 0) (v := 1) (by omega) (by decide +kernel) (by decide +kernel) hp hs
    refine Calls.mono h ?_
    rintro e w' ⟨rfl, d', K', h1, _, h3⟩
    rw [hC, wake_put] at h1
    exact ⟨rfl, d', K', h1, h3⟩
  clear hcw hal hb2 hp hs hC HW HD HB1
  go_wp2_with fail
  refine HS2.out.mono ?_
  rintro e w3 ⟨rfl, d3, K3, hc3, hb3⟩
  have HB3 : Hid (Below w.heap.size w w3) := HB2.out.trans (hb3.mono HL.out)
  have HS3 : Hid (Calls Tryd.prog 34 #[.pointer (some ⟨x, 0, none⟩), .int .i64 3, .int .i64 5] w3 fun e w' => e = .returned (.tuple #[.int .i64 5, .int .i64 0]) ∧ ∃ d', CW zn w' w1.heap.size x bt2 K3 true 4 xe d' 3489644544 268435456 0 ∧ Below w1.heap.size w3 w') := by
    have h := bits_w hc3 (by omega) (by omega) (by omega) (v := 5) (n := 3) (P := 8) (by omega) rfl (by omega)
    refine Calls.mono h ?_
    rintro e w' ⟨rfl, d', h1, h3⟩
    rw [wake_bits] at h1
    exact ⟨rfl, d', h1, h3⟩
  clear hc3 hb3 HS2 HB2
  go_wp2_with fail
  refine HS3.out.mono ?_
  rintro e w4 ⟨rfl, d4, hc4, hb4⟩
  have HB4 : Hid (Below w.heap.size w w4) := HB3.out.trans (hb4.mono HL.out)
  have HC4 : Hid (CW zn w4 w1.heap.size x bt2 K3 true 4 xe d4 3489644544 268435456 0) := hc4
  clear hc4 hb4 HS3 HB3
  go_wp2_with fail
  refine (bytes_w HC4.out (by omega)).mono ?_
  rintro e w5 ⟨vb, rfl, bb, zs, hby, hbb, hb5⟩
  have HC5 : Hid (CW zn w5 w1.heap.size x bt2 K3 true 4 xe d4 3489644544 268435456 0) := HC4.out.to hb5
  have HB5 : Hid (Below w.heap.size w w5) := HB4.out.trans (hb5.mono HB4.out.size)
  obtain rfl := wake_bytes hby
  have HY : Hid (L2.SrcOf w5 vb [207, 255, 192]) := hby.src
  have HYb : Hid (∀ i, ([207, 255, 192] : List Nat).getD i 0 < 256) := hby.byt
  clear hby hbb hb5 HB4 HC4
  go_wp2_with fail
  refine (default_any (HSh.out _ HB5.out)).mono ?_
  rintro e w6 ⟨bt6, K6, rfl, hst, hkl, hdq, hdk, hb6⟩
  have HC6 : Hid (CW zn w6 w1.heap.size x bt2 K3 true 4 xe d4 3489644544 268435456 0) := HC5.out.to hb6
  have HB6 : Hid (Below w.heap.size w w6) := HB5.out.trans (hb6.mono HB5.out.size)
  have HR : Hid (Calls Tryd.prog 24 #[vb, .agg #[.slice (some ⟨bt6, 0, none⟩) 32 32], .bool true] w6 fun e w' => RdN w6 w' e K6 true [207, 255, 192]) := reader_ok (HSh.out _ HB6.out) (Nat.lt_of_lt_of_le H0.out HB6.out.size) hst (okk_default hkl hdq) (src_to HY.out hb6) HYb.out (by simp)
  have HD : Hid (∀ L, Als K6 L → ∃ p s, L[2]? = some p ∧ p.2[0]? = some s ∧ s.C = dfC 2) := fun L hL => by
    obtain ⟨p, s, h1, h2, h3, _⟩ := als_default hkl hdq hL (j := 2) (c := 0) (by omega) (by decide +kernel)
    exact ⟨p, s, h1, h2, h3⟩
  clear hst hkl hdq hdk hb6 HC5 HB5 HY HYb
  go_wp2_with fail
  refine HR.out.mono ?_
  rintro e w7 ⟨y, bt7, L7, xd, b7, rfl, hcr, hal, hb7⟩
  obtain ⟨p7, s7, hp, hs, hC⟩ := HD.out L7 hal
  have HC7 : Hid (CW zn w7 w1.heap.size x bt2 K3 true 4 xe d4 3489644544 268435456 0) := HC6.out.to hb7
  have HB7 : Hid (Below w.heap.size w w7) := HB6.out.trans (hb7.mono HB6.out.size)
  have HL7 : Hid (w.heap.size ≤ w6.heap.size) := HB6.out.size
  have HCa : Hid (∀ v, Below w6.heap.size w7 v → CW zn v w1.heap.size x bt2 K3 true 4 xe d4 3489644544 268435456 0) := fun v hv => HC6.out.to (hb7.trans hv)
  rw [wake_first] at hcr
  have HS7 : Hid (Calls Tryd.prog 35 #[.pointer (some ⟨y, 0, none⟩), .int .i64 2, .int .i64 0, .int .i64 0] w7 fun e w' => e = .returned (.tuple #[.int .i64 1, .int .i64 0]) ∧ ∃ K', CR zn w' w6.heap.size y bt7 K' true 1 xd b7 [207, 255, 192] 4 1342177280 2147500031 ∧ Below w6.heap.size w7 w') := by
    have h := symbol_r hcr (HSh.out _ HB7.out) (by omega) (by omega) (kk := 2) (cx := 0) (z := 0) (by omega) (by decide +kernel) hp hs
    refine Calls.mono h ?_
    rintro e w' ⟨v, rfl, hf, K', h1, _, h3⟩
    rw [hC] at hf h1
    obtain rfl := wake_fd hf
    rw [wake_take] at h1
    exact ⟨rfl, K', h1, h3⟩
  clear hcr hal hb7 hp hs hC HR HD HB6 HC6 HC7
  go_wp2_with fail
  refine HS7.out.mono ?_
  rintro e w8 ⟨rfl, K8, hc8, hb8⟩
  have HB8 : Hid (Below w6.heap.size w7 w8) := hb8
  have HS8 : Hid (Calls Tryd.prog 34 #[.pointer (some ⟨y, 0, none⟩), .int .i64 3, .int .i64 0] w8 fun e w' => e = .returned (.tuple #[.int .i64 5, .int .i64 0]) ∧ ∃ q c g, CR zn w' w6.heap.size y bt7 K8 true 4 xd b7 [207, 255, 192] q c g ∧ Below w6.heap.size w8 w') := by
    have h := bits_r hc8 (by omega) (by omega) (n := 3) (z := 0) (by omega)
    refine Calls.mono h ?_
    rintro e w' ⟨rfl, h1, h3⟩
    rw [wake_read]
    exact ⟨rfl, _, _, _, h1, h3⟩
  clear hc8 hb8 HS7
  go_wp2_with fail
  refine HS8.out.mono ?_
  rintro e w9 ⟨rfl, q9, c9, g9, hc9, hb9⟩
  have HB9 : Hid (Below w6.heap.size w7 w9) := HB8.out.trans hb9
  have HR9 : Hid (CR zn w9 w6.heap.size y bt7 K8 true 4 xd b7 [207, 255, 192] q9 c9 g9) := hc9
  have HW9 := HCa.out _ HB9.out
  clear hc9 hb9 HS8 HB8 HCa
  go_wp2_with fail
  refine (count_w HW9).mono ?_
  rintro e w10 ⟨rfl, rfl⟩
  go_wp2_with fail
  refine (count_r HR9.out).mono ?_
  rintro e w11 ⟨rfl, rfl⟩
  go_wp2_with fail
  exact bodyPost_ret (v := .bool true) (by simp [results, Tryd.results21, go_sem]) rfl ⟨rfl, HB7.out.trans (HB9.out.mono HL7.out)⟩
end Go.Proofs.YtppanogpeengnaaDoor
