/- DERIVED. Streams: there and back, and cut anywhere. -/
import Derived.Test.YtkippnfijjhobaaTi
namespace Go.Proofs.Ytkippnfijjhobaa

def streamP (P : List Pc) : List Nat := P.flatMap pcB
theorem stream_cons (p : Pc) (P : List Pc) : streamP (p :: P) = pcB p ++ streamP P := by simp [streamP]
theorem stream_append (A B : List Pc) : streamP (A ++ B) = streamP A ++ streamP B := by simp [streamP]
theorem join_stream : ∀ (P : List Pc) (C : List Nat), (∀ p ∈ P, okP p) → joinP P C = (C ++ streamP P, 0) := by
  intro P
  induction P with
  | nil => intro C _; simp [joinP, streamP]
  | cons p P ih =>
    intro C h
    obtain ⟨h1, h2⟩ := h p (by simp)
    rw [joinP, if_neg (by rw [h1]; simp), if_neg (by omega), ih _ (fun q hq => h q (by simp [hq])), stream_cons, List.append_assoc]
theorem stream_one (p : Pc) : streamP [p] = pcB p := by simp [streamP]
theorem stream_nil : streamP [] = [] := rfl
theorem pick_pos (b : List Nat) (h : (pick b).1 = 0) : 1 ≤ (pick b).2.1 := by
  unfold pick at *
  split at h
  · simp at h
  · rename_i h1
    rw [if_neg h1]
    split at h
    · rename_i h2; exact absurd h h2
    · rename_i h2
      rw [if_neg h2]
      split at h
      · simp at h
      · rename_i h3
        rw [if_neg h3]
        split at h
        · simp at h
        · rename_i h4
          rw [if_neg h4]
          show 1 ≤ 1 + _
          omega
theorem cutS_fuel : ∀ (f f' : Nat) (b : List Nat) (q : Nat), b.length ≤ f → b.length ≤ f' → cutS f b q = cutS f' b q := by
  intro f
  induction f with
  | zero =>
    intro f' b q h h'
    have : b = [] := List.eq_nil_of_length_eq_zero (by omega)
    subst this
    cases f' <;> simp [cutS]
  | succ f ih =>
    intro f' b q h h'
    cases f' with
    | zero =>
      have : b = [] := List.eq_nil_of_length_eq_zero (by omega)
      subst this
      simp [cutS]
    | succ f' =>
      rw [cutS, cutS]
      split
      · rfl
      · split
        · rfl
        · rename_i h1 h2
          have hp := pick_pos b (by simpa using h2)
          have hl : 0 < b.length := List.length_pos_iff.2 h1
          rw [ih f' _ _ (by rw [List.length_drop]; omega) (by rw [List.length_drop]; omega)]
theorem cutS_shift : ∀ (f : Nat) (b : List Nat) (q k : Nat), cutS f b (q + k) = ((cutS f b q).1, (cutS f b q).2.1 + k, (cutS f b q).2.2) := by
  intro f
  induction f with
  | zero => intro b q k; rfl
  | succ f ih =>
    intro b q k
    rw [cutS, cutS]
    split
    · rfl
    · split
      · rfl
      · rw [show q + k + (pick b).2.1 + (pick b).2.2 = q + (pick b).2.1 + (pick b).2.2 + k from by omega, ih]
theorem pcB_ne (p : Pc) (R : List Nat) : pcB p ++ R ≠ [] := by simp [pcB]
/-- what was put together comes apart, whatever stands behind it -/
theorem split_app : ∀ (P : List Pc) (R : List Nat), (∀ p ∈ P, okP p) → splitP (streamP P ++ R) = (P ++ (splitP R).1, (streamP P).length + (splitP R).2.1, (splitP R).2.2) := by
  intro P
  induction P with
  | nil => intro R _; simp [streamP]
  | cons p P ih =>
    intro R h
    have hp := h p (by simp)
    obtain ⟨k1, k2, k3⟩ := pick_pcB hp (streamP P ++ R)
    have hi := ih R (fun q hq => h q (by simp [hq]))
    rw [stream_cons, List.append_assoc]
    generalize hX : streamP P ++ R = X at *
    have hl : (pcB p ++ X).length = (pcB p).length + X.length := List.length_append
    unfold splitP at hi ⊢
    obtain ⟨f, hf⟩ : ∃ f, (pcB p ++ X).length = f + 1 := ⟨(pcB p ++ X).length - 1, by omega⟩
    rw [hf, cutS, if_neg (pcB_ne _ _), k1, if_neg (by simp)]
    simp only
    rw [k2, show 1 + (lebB p.2.length).length + p.2.length = (pcB p).length from k3.symm, List.drop_left, show 0 + (1 + (lebB p.2.length).length) + p.2.length = 0 + (pcB p).length from by omega, cutS_shift, cutS_fuel f X.length X 0 (by omega) (Nat.le_refl _), hi]
    simp
    omega
theorem split_stream (P : List Pc) (h : ∀ p ∈ P, okP p) : splitP (streamP P) = (P, (streamP P).length, 0) := by
  have := split_app P [] h
  rw [List.append_nil] at this
  rw [this]
  simp [splitP, cutS]
/-- what was taken is written just so -/
theorem cutS_back : ∀ (f : Nat) (b : List Nat) (q : Nat), b.length ≤ f → (∀ i, b.getD i 0 < 256) →
    (∀ p ∈ (cutS f b q).1, okP p) ∧ q ≤ (cutS f b q).2.1 ∧ (cutS f b q).2.1 - q ≤ b.length ∧ streamP (cutS f b q).1 = b.take ((cutS f b q).2.1 - q) ∧ ((cutS f b q).2.2 = 0 ↔ (cutS f b q).2.1 - q = b.length) := by
  intro f
  induction f with
  | zero =>
    intro b q h _
    have : b = [] := List.eq_nil_of_length_eq_zero (by omega)
    subst this
    simp [cutS, streamP]
  | succ f ih =>
    intro b q h hz
    rw [cutS]
    split
    · rename_i h1; subst h1; simp [streamP]
    · split
      · rename_i h1 h2
        have hl : 0 < b.length := List.length_pos_iff.2 h1
        refine ⟨by simp, Nat.le_refl _, by simp, by simp [streamP], ?_⟩
        simp only [Nat.sub_self]
        exact ⟨fun e => absurd e h2, fun e => by omega⟩
      · rename_i h1 h2
        obtain ⟨k1, k2, k3, k4, k5⟩ := pick_front h1 hz (by simpa using h2)
        generalize (pick b).2.1 = m at *
        generalize (pick b).2.2 = s at *
        have hz' : ∀ i, (b.drop (m + s)).getD i 0 < 256 := fun i => by rw [getD_drop]; exact hz _
        obtain ⟨j1, j2, j3, j4, j5⟩ := ih (b.drop (m + s)) (q + m + s) (by rw [List.length_drop]; omega) hz'
        rw [List.length_drop] at j3 j5
        generalize cutS f (b.drop (m + s)) (q + m + s) = R at *
        obtain ⟨N, at', e⟩ := R
        simp only at *
        refine ⟨fun p hp => ?_, by omega, by omega, ?_, ?_⟩
        · rcases List.mem_cons.1 hp with rfl | hp
          · exact k1
          · exact j1 p hp
        · rw [stream_cons, j4, ← k2, show at' - q = (m + s) + (at' - (q + m + s)) from by omega]
          generalize at' - (q + m + s) = x
          generalize m + s = y
          exact List.take_add.symm
        · rw [j5]
          constructor <;> intro e <;> omega
theorem split_back {b : List Nat} (hz : ∀ i, b.getD i 0 < 256) : (∀ p ∈ (splitP b).1, okP p) ∧ (splitP b).2.1 ≤ b.length ∧ streamP (splitP b).1 = b.take (splitP b).2.1 ∧ ((splitP b).2.2 = 0 ↔ (splitP b).2.1 = b.length) := by
  obtain ⟨h1, h2, h3, h4, h5⟩ := cutS_back b.length b 0 (Nat.le_refl _) hz
  simp only [Nat.sub_zero] at h3 h4 h5
  exact ⟨h1, h3, h4, h5⟩
/-- a piece that is cut off -/
theorem pick_cut {p : Pc} (hp : okP p) (k : Nat) (h0 : 0 < k) (hk : k < (pcB p).length) : (pick ((pcB p).take k)).1 = 3 := by
  obtain ⟨h1, h2⟩ := hp
  obtain ⟨t, C⟩ := p
  simp only at h1 h2
  have ht : t = 1 ∨ t = 2 ∨ t = 3 := (tyB_iff t).1 h1
  have e3 : (pcB (t, C)).length = 1 + (lebB C.length).length + C.length := by simp [pcB]; omega
  obtain ⟨k', rfl⟩ : ∃ k', k = k' + 1 := ⟨k - 1, by omega⟩
  have eP : (pcB (t, C)).take (k' + 1) = (16 * t).toNat :: (lebB C.length ++ C).take k' := by simp [pcB]
  have e0 : ((pcB (t, C)).take (k' + 1)).getD 0 0 = (16 * t).toNat := by rw [eP]; simp
  have e1 : ((pcB (t, C)).take (k' + 1)).drop 1 = (lebB C.length ++ C).take k' := by rw [eP]; simp
  have el : ((pcB (t, C)).take (k' + 1)).length = k' + 1 := by rw [List.length_take]; omega
  unfold pick
  rw [e0, e1, el, if_neg (by rcases ht with rfl | rfl | rfl <;> simp)]
  rcases Nat.lt_or_ge k' (lebB C.length).length with hlt | hge
  · have e4 : (lebB C.length ++ C).take k' = (lebB C.length).take k' := by rw [List.take_append_of_le_length (by omega)]
    rw [e4, leb_trunc C.length (by omega) k' hlt]
    simp
  · have e4 : (lebB C.length ++ C).take k' = lebB C.length ++ C.take (k' - (lebB C.length).length) := by
      rw [List.take_append, List.take_of_length_le hge]
    rw [e4, leb_read C.length (by omega)]
    rw [if_neg (by simp), if_neg (by simp; omega), if_pos (by
      show _ < C.length
      rw [Nat.mul_div_cancel_left _ (by omega)]
      omega)]
/-- of a stream that is cut anywhere there are the first pieces, as many as are whole -/
theorem split_cut : ∀ (P : List Pc) (cut : Nat), (∀ p ∈ P, okP p) → cut ≤ (streamP P).length →
    ∃ k, k ≤ P.length ∧ (splitP ((streamP P).take cut)).1 = P.take k ∧ (splitP ((streamP P).take cut)).2.1 = (streamP (P.take k)).length ∧ ((splitP ((streamP P).take cut)).2.2 = 0 ∧ (streamP (P.take k)).length = cut ∨ (splitP ((streamP P).take cut)).2.2 = 3 ∧ (streamP (P.take k)).length ≠ cut) ∧ (k = P.length ∨ cut < (streamP (P.take (k + 1))).length) := by
  intro P
  induction P with
  | nil =>
    intro cut _ hc
    refine ⟨0, by simp, ?_⟩
    simp [streamP] at hc
    subst hc
    simp [streamP, splitP, cutS]
  | cons p P ih =>
    intro cut h hc
    have hp := h p (by simp)
    rw [stream_cons] at hc ⊢
    rw [List.length_append] at hc
    have hpl : 0 < (pcB p).length := by simp [pcB]
    rcases Nat.lt_or_ge cut (pcB p).length with hlt | hge
    · rw [List.take_append_of_le_length (by omega)]
      refine ⟨0, by simp, ?_⟩
      have hnext : cut < (streamP ((p :: P).take (0 + 1))).length := by
        rw [List.take_succ_cons, List.take_zero, stream_one]
        exact hlt
      have hz : (streamP ((p :: P).take 0)).length = 0 := by rw [List.take_zero]; rfl
      rcases Nat.eq_zero_or_pos cut with rfl | h0
      · rw [List.take_zero, show splitP [] = ([], 0, 0) from rfl]
        exact ⟨by simp, by rw [hz], Or.inl ⟨rfl, hz⟩, Or.inr hnext⟩
      · have hk := pick_cut hp cut h0 hlt
        have hne : (pcB p).take cut ≠ [] := fun e => by
          have := congrArg List.length e
          rw [List.length_take] at this
          simp at this
          rcases this with e2 | e2
          · omega
          · rw [e2] at hpl; simp at hpl
        have hs : splitP ((pcB p).take cut) = ([], 0, 3) := by
          unfold splitP
          obtain ⟨f, hf⟩ : ∃ f, ((pcB p).take cut).length = f + 1 := ⟨((pcB p).take cut).length - 1, by rw [List.length_take]; omega⟩
          rw [hf, cutS, if_neg hne, if_pos (by rw [hk]; simp), hk]
        rw [hs]
        exact ⟨by simp, by rw [hz], Or.inr ⟨rfl, by rw [hz]; omega⟩, Or.inr hnext⟩
    · obtain ⟨k, h1, h2, h3, h4, h5⟩ := ih (cut - (pcB p).length) (fun q hq => h q (by simp [hq])) (by omega)
      have e : (pcB p ++ streamP P).take cut = streamP [p] ++ (streamP P).take (cut - (pcB p).length) := by
        rw [List.take_append, List.take_of_length_le hge, stream_one]
      have hs := split_app [p] ((streamP P).take (cut - (pcB p).length)) (fun q hq => by simp at hq; rw [hq]; exact hp)
      rw [e, hs]
      have e1 : (streamP [p]).length = (pcB p).length := by rw [stream_one]
      have e2 : ∀ n, (streamP ((p :: P).take (n + 1))).length = (pcB p).length + (streamP (P.take n)).length := fun n => by rw [List.take_succ_cons, stream_cons, List.length_append]
      refine ⟨k + 1, by simp; omega, ?_, ?_, ?_, ?_⟩
      · show [p] ++ _ = _
        rw [h2]; simp
      · show (streamP [p]).length + _ = _
        rw [h3, e2, e1]
      · rw [e2]
        rcases h4 with ⟨j1, j2⟩ | ⟨j1, j2⟩
        · exact Or.inl ⟨j1, by omega⟩
        · exact Or.inr ⟨j1, by omega⟩
      · rcases h5 with j | j
        · exact Or.inl (by simp; exact j)
        · refine Or.inr ?_
          rw [e2]
          omega
end Go.Proofs.Ytkippnfijjhobaa
