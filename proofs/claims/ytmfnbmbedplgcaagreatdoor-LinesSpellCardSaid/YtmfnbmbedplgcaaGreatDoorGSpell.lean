/- LnSpell, LnHexS, LnSpelt. -/
import Derived.Test.YtmfnbmbedplgcaaGreatDoorGTri
import Derived.Test.YtmfnbmbedplgcaaGreatDoorTmEnc
import Derived.Lib.MapLaws
import Derived.Laws.IdiomStrings
import Derived.Test.YtmfnbmbedplgcaaGreatDoorGPar
import Derived.Lib.TrimUEq
namespace Go.Proofs.YtmfnbmbedplgcaaGreatDoor.Tm
set_option linter.unusedVariables false
set_option linter.unusedSimpArgs false
set_option maxRecDepth 100000
open Go Go.RowKit
/-! ### a text's runes -/
def rnsF : Nat → T → List Nat
  | 0, _ => []
  | n + 1, l => if l = [] then [] else (Lib.decodeL l).1 :: rnsF n (l.drop (Lib.decodeL l).2)
def rns (l : T) : List Nat := rnsF l.length l
theorem encR_enc (r : Nat) (h : okRune r) : Lib.encodeRune (r : Int) = enc r := by
  rw [enc_eq r h]
  unfold okRune at h
  unfold Lib.encodeRune Lib.encodeRuneZ
  by_cases h1 : r < 128
  · rw [if_pos (by omega), if_pos h1]; simp
  rw [if_neg (by omega), if_neg h1]
  by_cases h2 : r < 2048
  · rw [if_pos (by omega), if_pos h2]
    simp only [List.map_cons, List.map_nil, List.cons.injEq, and_true]
    exact ⟨congrArg UInt8.ofNat (by omega), congrArg UInt8.ofNat (by omega)⟩
  rw [if_neg (by omega), if_neg h2]
  by_cases h3 : r < 65536
  · rw [if_pos (by omega), if_pos h3]
    simp only [List.map_cons, List.map_nil, List.cons.injEq, and_true]
    exact ⟨congrArg UInt8.ofNat (by omega), congrArg UInt8.ofNat (by omega), congrArg UInt8.ofNat (by omega)⟩
  rw [if_neg (by omega), if_neg h3, if_pos (by omega)]
  simp only [List.map_cons, List.map_nil, List.cons.injEq, and_true]
  exact ⟨congrArg UInt8.ofNat (by omega), congrArg UInt8.ofNat (by omega), congrArg UInt8.ofNat (by omega), congrArg UInt8.ofNat (by omega)⟩
theorem dec_okN (n b0 b1 b2 b3 : Nat) : okRune (Lib.decodeN n b0 b1 b2 b3).1 := by
  unfold Lib.decodeN okRune
  repeat' split
  all_goals (simp only; omega)
theorem dec_ok (l : T) : okRune (Lib.decodeL l).1 := by rw [Lib.decodeL_N]; exact dec_okN _ _ _ _ _
theorem rnsF_ok : ∀ (n : Nat) (l : T), ∀ r ∈ rnsF n l, okRune r
  | 0, l, r, h => by simp [rnsF] at h
  | n + 1, l, r, h => by
    unfold rnsF at h
    split at h
    · simp at h
    · rcases List.mem_cons.1 h with rfl | h
      · exact dec_ok l
      · exact rnsF_ok n _ r h
theorem rns_ok (l : T) : ∀ r ∈ rns l, okRune r := rnsF_ok _ l
theorem rnsF_enc : ∀ (n : Nat) (l : T), l.length ≤ n → Lib.validD l = true → (rnsF n l).flatMap enc = l
  | 0, l, hl, _ => by
    have : l = [] := List.eq_nil_of_length_eq_zero (by omega)
    subst this; rfl
  | n + 1, l, hl, hv => by
    unfold rnsF
    split
    · rename_i h; subst h; rfl
    · rename_i h
      rw [Lib.validD_step l h] at hv
      split at hv
      · cases hv
      · rename_i hb
        have hw := Lib.decodeL_width l
        have hp : 0 < l.length := List.length_pos_iff.2 h
        rw [List.flatMap_cons, ← encR_enc _ (dec_ok l), Lib.encode_decode l h hb, rnsF_enc n _ (by rw [List.length_drop]; omega) hv, List.take_append_drop]
theorem rns_enc {l : T} (h : Lib.validD l = true) : (rns l).flatMap enc = l := rnsF_enc _ l (Nat.le_refl _) h
theorem rnsF_len : ∀ (n : Nat) (l : T), (rnsF n l).length ≤ n
  | 0, l => by simp [rnsF]
  | n + 1, l => by
    have ih := rnsF_len n (l.drop (Lib.decodeL l).2)
    unfold rnsF
    split
    · simp
    · simp only [List.length_cons]; omega
theorem rns_len (l : T) : (rns l).length ≤ l.length := rnsF_len _ l
/-- Sixteens, small and capital letters by turns. -/
def digT (k d : Nat) : UInt8 := if d < 10 then UInt8.ofNat (48 + d) else if k % 2 = 0 then UInt8.ofNat (87 + d) else UInt8.ofNat (55 + d)
def hexT : Nat → Nat → T
  | _, 0 => []
  | n, k + 1 => hexT (n / 16) k ++ [digT (k + 1) (n % 16)]
theorem hexT_len : ∀ (k n : Nat), (hexT n k).length = k
  | 0, _ => rfl
  | k + 1, n => by rw [hexT, List.length_append, hexT_len k (n / 16)]; rfl
theorem dig_back0 : ∀ d : Fin 16, hexc (digT 0 d.val) = some d.val := by decide
theorem dig_back1 : ∀ d : Fin 16, hexc (digT 1 d.val) = some d.val := by decide
theorem dig_back (k d : Nat) (h : d < 16) : hexc (digT k d) = some d := by
  have e : digT k d = digT (k % 2) d := by unfold digT; rw [Nat.mod_mod]
  rcases Nat.mod_two_eq_zero_or_one k with hk | hk
  · rw [e, hk]; exact dig_back0 ⟨d, h⟩
  · rw [e, hk]; exact dig_back1 ⟨d, h⟩
theorem hexL_snoc (d : UInt8) (rest : T) : ∀ (k : Nat) (s : T) (x y : Nat), s.length = k → hexL k s x = some y → hexL (k + 1) (s ++ d :: rest) x = (hexc d).map fun z => y * 16 + z
  | 0, s, x, y, hs, h => by
    have : s = [] := List.eq_nil_of_length_eq_zero hs
    subst this
    simp only [hexL, Option.some.injEq] at h
    subst h
    simp only [List.nil_append, hexL]
    cases hexc d <;> rfl
  | k + 1, [], x, y, hs, h => by simp at hs
  | k + 1, c :: s, x, y, hs, h => by
    unfold hexL at h
    rw [List.cons_append, hexL]
    cases hc : hexc c with
    | none => rw [hc] at h; cases h
    | some z =>
      rw [hc] at h
      exact hexL_snoc d rest k s _ y (by simpa using hs) h
theorem hexL_more (rest : T) : ∀ (k : Nat) (s : T) (x : Nat), s.length = k → hexL k (s ++ rest) x = hexL k s x
  | 0, s, x, hs => by simp [hexL]
  | k + 1, [], x, hs => by simp at hs
  | k + 1, c :: s, x, hs => by
    rw [List.cons_append, hexL, hexL]
    cases hexc c with
    | none => rfl
    | some z => exact hexL_more rest k s _ (by simpa using hs)
theorem hexL_back : ∀ (k n : Nat), hexL k (hexT n k) 0 = some (n % 16 ^ k)
  | 0, n => by simp [hexL, hexT, Nat.mod_one]
  | k + 1, n => by
    rw [hexT, hexL_snoc _ [] k _ 0 _ (hexT_len k _) (hexL_back k (n / 16)), dig_back _ _ (by omega)]
    simp only [Option.map_some, Option.some.injEq]
    rw [Nat.pow_succ, Nat.mul_comm (16 ^ k) 16, Nat.mod_mul]
    omega
theorem hexR_back (r : Nat) (h : okRune r) (rest : T) : hexR 8 (hexT r 8 ++ rest) = some r := by
  have h' := h
  unfold okRune at h'
  unfold hexR
  rw [hexL_more rest 8 _ 0 (hexT_len 8 r), hexL_back, Nat.mod_eq_of_lt (show r < 16 ^ 8 by omega)]
  simp only
  rw [if_neg (by omega)]
/-- Runes as numbers. -/
def spS (l : List Nat) : T := l.flatMap fun r => 92 :: 85 :: hexT r 8
theorem spS_cons (r : Nat) (l : List Nat) : spS (r :: l) = 92 :: 85 :: (hexT r 8 ++ spS l) := by simp [spS]
theorem spS_len : ∀ l : List Nat, (spS l).length = 10 * l.length
  | [] => rfl
  | r :: l => by rw [spS_cons]; simp only [List.length_cons, List.length_append, hexT_len, spS_len l]; omega
theorem spS_snoc (l : List Nat) (r : Nat) : spS (l ++ [r]) = spS l ++ 92 :: 85 :: hexT r 8 := by simp [spS]
theorem up_spS (e : UInt8) (lit : Bool) (he : e ≠ 92) : ∀ (l : List Nat) (rest : T) (f : Nat), l.length + 1 ≤ f → (∀ r ∈ l, okRune r) → up f e lit (spS l ++ e :: rest) = some (l.flatMap enc, rest)
  | [], rest, f, hf, _ => by
    obtain ⟨g, rfl⟩ : ∃ g, f = g + 1 := ⟨f - 1, by simp at hf; omega⟩
    simp [up, spS]
  | r :: l, rest, f, hf, h => by
    obtain ⟨g, rfl⟩ : ∃ g, f = g + 1 := ⟨f - 1, by simp at hf; omega⟩
    have ih := up_spS e lit he l rest g (by simp at hf; omega) (fun d hd => h d (by simp [hd]))
    have hr := hexR_back r (h r (by simp)) (spS l ++ e :: rest)
    have hd : (85 :: (hexT r 8 ++ (spS l ++ e :: rest))).drop 9 = spS l ++ e :: rest := by
      rw [List.drop_succ_cons, List.drop_left' (hexT_len 8 r)]
    rw [spS_cons, List.cons_append, List.cons_append, List.append_assoc, up, if_neg (fun h => he h.symm), if_pos rfl]
    have h1 : esc1 lit (85 :: (hexT r 8 ++ (spS l ++ e :: rest))) = some (runeT r, 9) := by
      simp [esc1, hr]
    rw [h1]
    simp only
    rw [hd, ih]
    rfl
theorem upU_spS (e : UInt8) (lit : Bool) (he : e ≠ 92) (s rest : T) (hv : Lib.validD s = true) : upU e lit (spS (rns s) ++ e :: rest) = some (s, rest) := by
  unfold upU
  rw [up_spS e lit he (rns s) rest _ (by rw [List.length_append, spS_len]; simp only [List.length_cons]; omega) (rns_ok s), rns_enc hv]
/-- A term as it is shown, or spelt. -/
def spT (all : Bool) (n : Nat) (t x : T) : T :=
  if all = false ∨ n = 2 then showT n t x
  else if n = 1 then 60 :: (spS (rns t) ++ [62])
  else if n = 4 then 34 :: (spS (rns t) ++ 34 :: 64 :: x)
  else if n = 5 then 34 :: (spS (rns t) ++ 34 :: 94 :: 94 :: 60 :: (x ++ [62]))
  else 34 :: (spS (rns t) ++ [34])
theorem rterm_showc {n : Nat} {t x : T} (c : UInt8) (hc : c = 32 ∨ c = 9) (r : T) (h : Tm.is (n : Int) t x = true) : rterm (showT n t x ++ c :: r) = some (n, t, x, c :: r) := by
  have hn : alnum c = false := by rcases hc with rfl | rfl <;> decide
  have hn2 : alnumD c = false := by rcases hc with rfl | rfl <;> decide
  have h64 : c ≠ 64 := by rcases hc with rfl | rfl <;> decide
  have h94 : c ≠ 94 := by rcases hc with rfl | rfl <;> decide
  rcases is_cases h with ⟨rfl, rfl, h1⟩ | ⟨rfl, rfl, h1⟩ | ⟨rfl, rfl, h1⟩ | ⟨rfl, h1, h2⟩ | ⟨rfl, h1, h2⟩
  · have e : showT 1 t [] ++ c :: r = 60 :: (t ++ 62 :: (c :: r)) := by simp [showT]
    rw [e, rterm_up62, upU_plain 62 false t (c :: r) (isIRI_sign h1)]; rfl
  · have e : showT 2 t [] ++ c :: r = 95 :: 58 :: (t ++ c :: r) := by simp [showT]
    obtain ⟨a, b⟩ := takeWhile_app (p := alnum) (l := t) c r (label_all h1).2.2 hn
    rw [e, rterm_95, a, b]
  · have e : showT 3 t [] ++ c :: r = 34 :: (escs t ++ 34 :: (c :: r)) := by simp [showT]
    rw [e, rterm_34]
    unfold rlit
    rw [upU_escs]
    show (if (c :: r : T).headD 0 = 64 then _ else if (c :: r : T).take 3 = [94, 94, 60] then _ else _) = _
    rw [if_neg (by simpa using h64), if_neg (by simp [h94])]
  · have e : showT 4 t x ++ c :: r = 34 :: (escs t ++ 34 :: (64 :: (x ++ c :: r))) := by simp [showT]
    have hb := pass_bytes x false 0 (by unfold lang at h1; simp at h1; exact h1.1)
    obtain ⟨a, b⟩ := takeWhile_app (p := alnumD) (l := x) c r (fun c hc => alnumD_small (hb c hc)) hn2
    rw [e, rterm_34]
    unfold rlit
    rw [upU_escs]
    show (if (64 :: (x ++ c :: r) : T).headD 0 = 64 then some (4, t, ((x ++ c :: r).takeWhile alnumD).map lower, (x ++ c :: r).dropWhile alnumD) else _) = _
    rw [if_pos (by simp), a, b, map_lower hb]
  · have e : showT 5 t x ++ c :: r = 34 :: (escs t ++ 34 :: (94 :: 94 :: 60 :: (x ++ 62 :: (c :: r)))) := by simp [showT]
    rw [e, rterm_34]
    unfold rlit
    rw [upU_escs]
    show (if (94 :: 94 :: 60 :: (x ++ 62 :: (c :: r)) : T).headD 0 = 64 then _ else if (94 :: 94 :: 60 :: (x ++ 62 :: (c :: r)) : T).take 3 = [94, 94, 60] then (upU 62 false (x ++ 62 :: (c :: r))).map (fun q : T × T => ((5 : Nat), t, q.1, q.2)) else _) = _
    rw [if_neg (by simp), if_pos (by simp), upU_plain 62 false x (c :: r) (isIRI_sign h1)]; rfl
theorem rterm_sp {n : Nat} {t x : T} (all : Bool) (c : UInt8) (hc : c = 32 ∨ c = 9) (r : T) (h : Tm.is (n : Int) t x = true) : rterm (spT all n t x ++ c :: r) = some (n, t, x, c :: r) := by
  have hn2 : alnumD c = false := by rcases hc with rfl | rfl <;> decide
  have h64 : c ≠ 64 := by rcases hc with rfl | rfl <;> decide
  have h94 : c ≠ 94 := by rcases hc with rfl | rfl <;> decide
  cases all
  · exact rterm_showc c hc r h
  rcases is_cases h with ⟨rfl, rfl, h1⟩ | ⟨rfl, rfl, h1⟩ | ⟨rfl, rfl, h1⟩ | ⟨rfl, h1, h2⟩ | ⟨rfl, h1, h2⟩
  · have e : spT true 1 t [] ++ c :: r = 60 :: (spS (rns t) ++ 62 :: (c :: r)) := by simp [spT]
    rw [e, rterm_up62, upU_spS 62 false (by decide) t (c :: r) (iri_parts h1).2.2]; rfl
  · exact rterm_showc c hc r h
  · have e : spT true 3 t [] ++ c :: r = 34 :: (spS (rns t) ++ 34 :: (c :: r)) := by simp [spT]
    rw [e, rterm_34]
    unfold rlit
    rw [upU_spS 34 true (by decide) t _ (text_parts h1).2]
    show (if (c :: r : T).headD 0 = 64 then _ else if (c :: r : T).take 3 = [94, 94, 60] then _ else _) = _
    rw [if_neg (by simpa using h64), if_neg (by simp [h94])]
  · have e : spT true 4 t x ++ c :: r = 34 :: (spS (rns t) ++ 34 :: (64 :: (x ++ c :: r))) := by simp [spT]
    have hb := pass_bytes x false 0 (by unfold lang at h1; simp at h1; exact h1.1)
    obtain ⟨a, b⟩ := takeWhile_app (p := alnumD) (l := x) c r (fun c hc => alnumD_small (hb c hc)) hn2
    rw [e, rterm_34]
    unfold rlit
    rw [upU_spS 34 true (by decide) t _ (text_parts h2).2]
    show (if (64 :: (x ++ c :: r) : T).headD 0 = 64 then some (4, t, ((x ++ c :: r).takeWhile alnumD).map lower, (x ++ c :: r).dropWhile alnumD) else _) = _
    rw [if_pos (by simp), a, b, map_lower hb]
  · have e : spT true 5 t x ++ c :: r = 34 :: (spS (rns t) ++ 34 :: (94 :: 94 :: 60 :: (x ++ 62 :: (c :: r)))) := by simp [spT]
    rw [e, rterm_34]
    unfold rlit
    rw [upU_spS 34 true (by decide) t _ (text_parts h2).2]
    show (if (94 :: 94 :: 60 :: (x ++ 62 :: (c :: r)) : T).headD 0 = 64 then _ else if (94 :: 94 :: 60 :: (x ++ 62 :: (c :: r)) : T).take 3 = [94, 94, 60] then (upU 62 false (x ++ 62 :: (c :: r))).map (fun q : T × T => ((5 : Nat), t, q.1, q.2)) else _) = _
    rw [if_neg (by simp), if_pos (by simp), upU_plain 62 false x (c :: r) (isIRI_sign h1)]; rfl
/-! ### a spelt line -/
theorem dig_low0 : ∀ d : Fin 16, (digT 0 d.val).toNat < 128 ∧ digT 0 d.val ≠ 10 := by decide
theorem dig_low1 : ∀ d : Fin 16, (digT 1 d.val).toNat < 128 ∧ digT 1 d.val ≠ 10 := by decide
theorem dig_low (k d : Nat) (h : d < 16) : (digT k d).toNat < 128 ∧ digT k d ≠ 10 := by
  have e : digT k d = digT (k % 2) d := by unfold digT; rw [Nat.mod_mod]
  rcases Nat.mod_two_eq_zero_or_one k with hk | hk
  · rw [e, hk]; exact dig_low0 ⟨d, h⟩
  · rw [e, hk]; exact dig_low1 ⟨d, h⟩
theorem hexT_low : ∀ (k n : Nat), ∀ c ∈ hexT n k, c.toNat < 128 ∧ c ≠ 10
  | 0, n, c, h => by simp [hexT] at h
  | k + 1, n, c, h => by
    rw [hexT, List.mem_append] at h
    rcases h with h | h
    · exact hexT_low k _ c h
    · rw [List.mem_singleton] at h
      subst h
      exact dig_low _ _ (by omega)
theorem spS_low (l : List Nat) : ∀ c ∈ spS l, c.toNat < 128 ∧ c ≠ 10 := by
  intro c h
  unfold spS at h
  rw [List.mem_flatMap] at h
  obtain ⟨r, _, h⟩ := h
  simp only [List.mem_cons] at h
  rcases h with rfl | rfl | h
  · decide
  · decide
  · exact hexT_low 8 r c h
theorem valid_spS (l : List Nat) : Lib.validD (spS l) = true := valid_low _ fun c hc => (spS_low l c hc).1
theorem sp_valid {n : Nat} {t x : T} (all : Bool) (h : Tm.is (n : Int) t x = true) : Lib.validD (spT all n t x) = true := by
  have hs := valid_spS (rns t)
  cases all
  · exact show_valid h
  rcases is_cases h with ⟨rfl, rfl, h1⟩ | ⟨rfl, rfl, h1⟩ | ⟨rfl, rfl, h1⟩ | ⟨rfl, h1, h2⟩ | ⟨rfl, h1, h2⟩
  · show Lib.validD (60 :: (spS (rns t) ++ [62])) = true
    exact valid_cons (by decide) (valid_two hs (by decide))
  · exact show_valid h
  · show Lib.validD (34 :: (spS (rns t) ++ [34])) = true
    exact valid_cons (by decide) (valid_two hs (by decide))
  · show Lib.validD (34 :: (spS (rns t) ++ 34 :: 64 :: x)) = true
    exact valid_cons (by decide) (valid_two hs (valid_cons (by decide) (valid_cons (by decide) (valid_low _ (lang_bytes h1).2))))
  · show Lib.validD (34 :: (spS (rns t) ++ 34 :: 94 :: 94 :: 60 :: (x ++ [62]))) = true
    exact valid_cons (by decide) (valid_two hs (valid_cons (by decide) (valid_cons (by decide) (valid_cons (by decide) (valid_cons (by decide) (valid_two (iri_parts h1).2.2 (by decide)))))))
theorem sp_no10 {n : Nat} {t x : T} (all : Bool) (h : Tm.is (n : Int) t x = true) : ∀ d ∈ spT all n t x, d ≠ 10 := by
  have hs := spS_low (rns t)
  cases all
  · exact show_no10 h
  rcases is_cases h with ⟨rfl, rfl, h1⟩ | ⟨rfl, rfl, h1⟩ | ⟨rfl, rfl, h1⟩ | ⟨rfl, h1, h2⟩ | ⟨rfl, h1, h2⟩
  · intro d hd
    have hd : d ∈ 60 :: (spS (rns t) ++ [62]) := hd
    simp only [List.mem_cons, List.mem_append, List.not_mem_nil, or_false] at hd
    rcases hd with rfl | hd | rfl
    · decide
    · exact (hs d hd).2
    · decide
  · exact show_no10 h
  · intro d hd
    have hd : d ∈ 34 :: (spS (rns t) ++ [34]) := hd
    simp only [List.mem_cons, List.mem_append, List.not_mem_nil, or_false] at hd
    rcases hd with rfl | hd | rfl
    · decide
    · exact (hs d hd).2
    · decide
  · have hb := pass_bytes x false 0 (by unfold lang at h1; simp at h1; exact h1.1)
    intro d hd
    have hd : d ∈ 34 :: (spS (rns t) ++ 34 :: 64 :: x) := hd
    simp only [List.mem_cons, List.mem_append] at hd
    rcases hd with rfl | hd | rfl | rfl | hd
    · decide
    · exact (hs d hd).2
    · decide
    · decide
    · rintro rfl
      exact absurd (hb 10 hd) (by decide)
  · have hi := isIRI_sign h1
    intro d hd
    have hd : d ∈ 34 :: (spS (rns t) ++ 34 :: 94 :: 94 :: 60 :: (x ++ [62])) := hd
    simp only [List.mem_cons, List.mem_append, List.not_mem_nil, or_false] at hd
    rcases hd with rfl | hd | rfl | rfl | rfl | rfl | hd | rfl
    · decide
    · exact (hs d hd).2
    · decide
    · decide
    · decide
    · decide
    · exact (hi d hd).2.2.1
    · decide
theorem sp_head {n : Nat} {t x : T} (all : Bool) (h : Tm.is (n : Int) t x = true) : ∃ (c : UInt8) (r : T), spT all n t x = c :: r ∧ (c = 60 ∨ c = 95 ∨ c = 34) := by
  cases all
  · exact show_head h
  rcases is_cases h with ⟨rfl, rfl, h1⟩ | ⟨rfl, rfl, h1⟩ | ⟨rfl, rfl, h1⟩ | ⟨rfl, h1, h2⟩ | ⟨rfl, h1, h2⟩
  · exact ⟨60, _, rfl, .inl rfl⟩
  · exact ⟨95, _, rfl, .inr (.inl rfl)⟩
  · exact ⟨34, _, rfl, .inr (.inr rfl)⟩
  · exact ⟨34, _, rfl, .inr (.inr rfl)⟩
  · exact ⟨34, _, rfl, .inr (.inr rfl)⟩
theorem sp_blank {n : Nat} {t x : T} (all : Bool) (r : T) (h : Tm.is (n : Int) t x = true) : (spT all n t x ++ r).dropWhile blankC = spT all n t x ++ r := by
  obtain ⟨c, u, e, hc⟩ := sp_head all h
  rw [e, List.cons_append, List.dropWhile_cons]
  rw [show blankC c = false by rcases hc with rfl | rfl | rfl <;> rfl]; rfl
/-- What stands between, and what ends a line. -/
def gapT (a : Bool) : T := if a = true then [9, 32, 32] else [32]
def endT (b : Bool) : T := if b = true then [32, 35, 32, 120, 13] else []
theorem gap_drop (a : Bool) (r : T) : (gapT a ++ r).dropWhile blankC = r.dropWhile blankC := by
  cases a
  · show (32 :: r).dropWhile blankC = _
    rw [List.dropWhile_cons]; rfl
  · show (9 :: 32 :: 32 :: r).dropWhile blankC = _
    rw [List.dropWhile_cons]
    show (32 :: 32 :: r).dropWhile blankC = _
    rw [List.dropWhile_cons]
    show (32 :: r).dropWhile blankC = _
    rw [List.dropWhile_cons]; rfl
theorem gap_no10 (a : Bool) : ∀ d ∈ gapT a, d ≠ 10 := by cases a <;> decide
theorem end_no10 (b : Bool) : ∀ d ∈ endT b, d ≠ 10 := by cases b <;> decide
theorem gap_valid (a : Bool) : Lib.validD (gapT a) = true := by cases a <;> rfl
theorem rt_sp {n : Nat} {t x : T} (all a : Bool) (r : T) (h : Tm.is (n : Int) t x = true) : rt (spT all n t x ++ (gapT a ++ r)) = some ((n, t, x), r.dropWhile blankC) := by
  have hr : rterm (spT all n t x ++ (gapT a ++ r)) = some (n, t, x, gapT a ++ r) := by
    cases a
    · exact rterm_sp all 32 (.inl rfl) r h
    · exact rterm_sp all 9 (.inr rfl) (32 :: 32 :: r) h
  unfold rt
  rw [hr]
  simp only
  rw [gap_drop]
def spB (a b all : Bool) (p : TT) : T := gapT a ++ (spT all p.1.1 p.1.2.1 p.1.2.2 ++ (gapT a ++ (spT all p.2.1.1 p.2.1.2.1 p.2.1.2.2 ++ (gapT a ++ (spT all p.2.2.1 p.2.2.2.1 p.2.2.2.2 ++ (gapT a ++ 46 :: endT b))))))
/-- The same, a return at its end taken off. -/
def spB' (a b all : Bool) (p : TT) : T := gapT a ++ (spT all p.1.1 p.1.2.1 p.1.2.2 ++ (gapT a ++ (spT all p.2.1.1 p.2.1.2.1 p.2.1.2.2 ++ (gapT a ++ (spT all p.2.2.1 p.2.2.2.1 p.2.2.2.2 ++ (gapT a ++ 46 :: (endT b).dropLast))))))
theorem spB_no10 {p : TT} (a b all : Bool) (h : isTri p = true) : ∀ d ∈ spB a b all p, d ≠ 10 := by
  obtain ⟨_, _, h1, h2, h3⟩ := isTri_parts h
  intro d hd
  unfold spB at hd
  simp only [List.mem_cons, List.mem_append] at hd
  rcases hd with hd | hd | hd | hd | hd | hd | hd | rfl | hd
  · exact gap_no10 a d hd
  · exact sp_no10 all h1 d hd
  · exact gap_no10 a d hd
  · exact sp_no10 all h2 d hd
  · exact gap_no10 a d hd
  · exact sp_no10 all h3 d hd
  · exact gap_no10 a d hd
  · decide
  · exact end_no10 b d hd
theorem trim_ret (u : T) : Lib.trimSuffix (u ++ [13]) [13] = u := by
  unfold Lib.trimSuffix
  rw [if_pos (by simp [Lib.hasSuffix])]
  simp
theorem cutP_sp {p : TT} (a b all : Bool) (h : isTri p = true) (r : T) : cutP (spB a b all p ++ 10 :: r) = (spB' a b all p, r) := by
  unfold cutP
  rw [cut_line _ r (spB_no10 a b all h)]
  simp only [if_true]
  obtain ⟨u, hu⟩ : ∃ u, u = gapT a ++ (spT all p.1.1 p.1.2.1 p.1.2.2 ++ (gapT a ++ (spT all p.2.1.1 p.2.1.2.1 p.2.1.2.2 ++ (gapT a ++ (spT all p.2.2.1 p.2.2.2.1 p.2.2.2.2 ++ gapT a))))) := ⟨_, rfl⟩
  cases b
  · have e : spB a false all p = u ++ [46] := by rw [hu]; simp [spB, endT]
    have e' : spB' a false all p = u ++ [46] := by rw [hu]; simp [spB', endT]
    rw [e, e', trim_line]
  · have e : spB a true all p = (u ++ [46, 32, 35, 32, 120]) ++ [13] := by rw [hu]; simp [spB, endT]
    have e' : spB' a true all p = u ++ [46, 32, 35, 32, 120] := by rw [hu]; simp [spB', endT]
    rw [e, e', trim_ret]
theorem one_sp {p : TT} (a b all : Bool) (h : isTri p = true) : one (spB' a b all p) = some (some p) := by
  obtain ⟨_, _, h1, h2, h3⟩ := isTri_parts h
  obtain ⟨⟨n1, t1, x1⟩, ⟨n2, t2, x2⟩, ⟨n3, t3, x3⟩⟩ := p
  simp only at h1 h2 h3
  have hg := gap_valid a
  have hv : Lib.validD (spB' a b all ((n1, t1, x1), (n2, t2, x2), (n3, t3, x3))) = true := by
    unfold spB'
    exact valid_two hg (valid_two (sp_valid all h1) (valid_two hg (valid_two (sp_valid all h2) (valid_two hg (valid_two (sp_valid all h3) (valid_two hg (valid_cons (by decide) (by cases b <;> rfl))))))))
  unfold one
  rw [if_neg (by rw [hv]; decide)]
  have hd : (spB' a b all ((n1, t1, x1), (n2, t2, x2), (n3, t3, x3))).dropWhile blankC = spT all n1 t1 x1 ++ (gapT a ++ (spT all n2 t2 x2 ++ (gapT a ++ (spT all n3 t3 x3 ++ (gapT a ++ 46 :: (endT b).dropLast))))) := by
    unfold spB'
    rw [gap_drop, sp_blank all _ h1]
  rw [hd, if_neg]
  · unfold rtri
    rw [rt_sp all a _ h1, sp_blank all _ h2]; simp only
    rw [rt_sp all a _ h2, sp_blank all _ h3]; simp only
    rw [rt_sp all a _ h3]; simp only
    have hp : (46 :: (endT b).dropLast : T).dropWhile blankC = 46 :: (endT b).dropLast := by rw [List.dropWhile_cons]; rfl
    rw [hp]
    show (match (match point (46 :: (endT b).dropLast) with | none => none | some z => some (((n1, t1, x1), (n2, t2, x2), (n3, t3, x3)), z)) with | none => none | some (p, r) => if endd r = true ∧ isTri p = true then some (some p) else none) = _
    have he : point (46 :: (endT b).dropLast) = some ((endT b).dropLast.dropWhile blankC) := rfl
    rw [he]
    simp only
    rw [if_pos ⟨by cases b <;> rfl, h⟩]
  · obtain ⟨c, u, e, hc⟩ := sp_head all h1
    rw [e, List.cons_append]
    unfold endd
    rcases hc with rfl | rfl | rfl <;> simp
/-- Spelt triples as a text. -/
def spL (a b all : Bool) (l : List TT) : T := l.flatMap fun p => spB a b all p ++ [10]
theorem spL_snoc (a b all : Bool) (l : List TT) (p : TT) : spL a b all (l ++ [p]) = spL a b all l ++ (spB a b all p ++ [10]) := by simp [spL]
theorem plU_sp (a b all : Bool) {p : TT} (h : isTri p = true) (r : T) (n : Nat) (acc : List TT) (hn : n + 1 ≤ 200) (ha : acc.length < 100) : plU (spB a b all p ++ 10 :: r) n acc = plU r (n + 1) (addT acc p) := by
  have hne : (spB a b all p ++ 10 :: r) ≠ [] := by simp
  rw [plU_step hne, if_neg (by omega), cutP_sp a b all h r]
  simp only
  rw [one_sp a b all h]
  simp only
  unfold addT
  split
  · rfl
  · rw [if_neg (by omega)]
theorem plU_sps (a b all : Bool) : ∀ (l : List TT) (r : T) (n : Nat) (acc : List TT), (∀ t ∈ l, isTri t = true) → n + l.length ≤ 200 → acc.length + l.length ≤ 100 → plU (spL a b all l ++ r) n acc = plU r (n + l.length) (addAll acc l)
  | [], r, n, acc, _, _, _ => rfl
  | p :: l, r, n, acc, h, hn, ha => by
    simp only [List.length_cons] at hn ha
    have hl := addT_len acc p
    have e : spL a b all (p :: l) ++ r = spB a b all p ++ 10 :: (spL a b all l ++ r) := by simp [spL]
    rw [e, plU_sp a b all (h p (by simp)) _ _ _ (by omega) (by omega)]
    rw [plU_sps a b all l r (n + 1) (addT acc p) (fun t ht => h t (by simp [ht])) (by omega) (by omega)]
    rw [List.length_cons, show n + 1 + l.length = n + (l.length + 1) by omega]
    rfl
/-- The remark and the empty line ahead. -/
def headS : T := [35, 32, 114, 101, 109, 97, 114, 107, 32, 195, 169, 10, 10]
theorem head_cut (r : T) : cutP (headS ++ r) = ([35, 32, 114, 101, 109, 97, 114, 107, 32, 195, 169], 10 :: r) := by
  have e : headS ++ r = [35, 32, 114, 101, 109, 97, 114, 107, 32, 195, 169] ++ 10 :: (10 :: r) := rfl
  rw [e]
  unfold cutP
  rw [cut_line _ _ (by decide)]
  rfl
theorem head_cut2 (r : T) : cutP (10 :: r) = ([], r) := by
  have e : (10 :: r : T) = [] ++ 10 :: r := rfl
  rw [e]
  unfold cutP
  rw [cut_line _ _ (by decide)]
  rfl
theorem head_one : one [35, 32, 114, 101, 109, 97, 114, 107, 32, 195, 169] = some none := by kernel_rfl
theorem head_one2 : one [] = some none := by kernel_rfl
theorem plU_head (r : T) : plU (headS ++ r) 0 [] = plU r 2 [] := by
  rw [plU_step (by simp [headS]), if_neg (by omega), head_cut]
  simp only
  rw [head_one]
  simp only
  rw [plU_step (by simp), if_neg (by omega), head_cut2]
  simp only
  rw [head_one2]
theorem plU_spell (a b all : Bool) (l : List TT) (h : ∀ t ∈ l, isTri t = true) (hn : l.length ≤ 20) : plU (headS ++ spL a b all l) 0 [] = (0, 2 + l.length, addAll [] l) := by
  have e := plU_sps a b all l [] 2 [] h (by omega) (by simp only [List.length_nil]; omega)
  rw [List.append_nil] at e
  rw [plU_head, e, plU_nil]
end Go.Proofs.YtmfnbmbedplgcaaGreatDoor.Tm
namespace Go.Proofs.YtmfnbmbedplgcaaGreatDoor
set_option linter.unusedVariables false
set_option linter.unusedSimpArgs false
set_option maxRecDepth 100000
open Go.ChangeShapes Go.WideShapes Go.ChangeAt Go.RowKit
theorem sp_and (a b : Nat) (ha : a < 9223372036854775808) (hb : b < 9223372036854775808) : bits .and .i64 (a : Int) (b : Int) = ((a &&& b : Nat) : Int) := by
  have hx : a &&& b < 2 ^ 63 := Nat.and_lt_two_pow _ (by omega)
  have e : ∀ a : Nat, a < 9223372036854775808 → (BitVec.ofInt 64 (a : Int)).toNat = a := fun a ha => by
    rw [BitVec.ofInt_natCast, BitVec.toNat_ofNat]; exact Nat.mod_eq_of_lt (by omega)
  show IntKind.i64.wrap ((BitVec.ofInt 64 (a : Int) &&& BitVec.ofInt 64 (b : Int)).toNat : Int) = _
  rw [BitVec.toNat_and, e a ha, e b hb, IntKind.wrap_i64]
  omega
theorem dig_ext0 (r : Nat) (h : r < 16) : (⟨#[48, 49, 50, 51, 52, 53, 54, 55, 56, 57, 97, 98, 99, 100, 101, 102]⟩ : ByteArray).extract r (r + 1) = ⟨#[Tm.digT 0 r]⟩ := by
  have e := ba_extract [48, 49, 50, 51, 52, 53, 54, 55, 56, 57, 97, 98, 99, 100, 101, 102] r (r + 1)
  have : ∀ k : Fin 16, (([48, 49, 50, 51, 52, 53, 54, 55, 56, 57, 97, 98, 99, 100, 101, 102] : List UInt8).drop k.val).take (k.val + 1 - k.val) = [Tm.digT 0 k.val] := by decide
  rw [this ⟨r, h⟩] at e
  exact e
theorem dig_ext1 (r : Nat) (h : r < 16) : (⟨#[48, 49, 50, 51, 52, 53, 54, 55, 56, 57, 65, 66, 67, 68, 69, 70]⟩ : ByteArray).extract r (r + 1) = ⟨#[Tm.digT 1 r]⟩ := by
  have e := ba_extract [48, 49, 50, 51, 52, 53, 54, 55, 56, 57, 65, 66, 67, 68, 69, 70] r (r + 1)
  have : ∀ k : Fin 16, (([48, 49, 50, 51, 52, 53, 54, 55, 56, 57, 65, 66, 67, 68, 69, 70] : List UInt8).drop k.val).take (k.val + 1 - k.val) = [Tm.digT 1 k.val] := by decide
  rw [this ⟨r, h⟩] at e
  exact e
theorem digT_par (k d : Nat) : Tm.digT k d = Tm.digT (k % 2) d := by unfold Tm.digT; rw [Nat.mod_mod]
set_option maxHeartbeats 4000000 in
theorem hexs_zero (n : Nat) (W : World) : Calls Tryz.prog 34 #[.int .i64 n, .int .i64 0] W fun e W' => e = .returned (str []) ∧ Below W.heap.size W W' := by
  have HB0 := hid (Below.refl W.heap.size W)
  go_enter Tryz.func34, Tryz.ntmps34
  go_wp2
  go_ret
  exact ⟨rfl, HB0.out⟩
set_option maxHeartbeats 4000000 in
theorem hexs_step (k n : Nat) (W : World) (hk : k + 1 ≤ 8) (hn : n ≤ 4294967295) (IH : Hid (∀ W : World, Calls Tryz.prog 34 #[.int .i64 ((n / 16 : Nat) : Int), .int .i64 k] W fun e W' => e = .returned (str (Tm.hexT (n / 16) k)) ∧ Below W.heap.size W W')) :
    Calls Tryz.prog 34 #[.int .i64 n, .int .i64 ((k + 1 : Nat) : Int)] W fun e W' => e = .returned (str (Tm.hexT n (k + 1))) ∧ Below W.heap.size W W' := by
  have HB0 := hid (Below.refl W.heap.size W)
  have e0 : (((k + 1 : Nat) : Int) == 0) = false := beq_eq_false_iff_ne.2 (by omega)
  have h15 : bits BinOp.and IntKind.i64 (n : Int) 15 = ((n % 16 : Nat) : Int) := by
    have := sp_and n 15 (by omega) (by omega)
    rw [show (15 : Int) = ((15 : Nat) : Int) from rfl, this, show n &&& 15 = n % 16 from Nat.and_two_pow_sub_one_eq_mod n 4]
  have hsh : (n : Int) / 16 = ((n / 16 : Nat) : Int) := by omega
  have hk1 : IntKind.i64.wrap (((k + 1 : Nat) : Int) - 1) = (k : Int) := by rw [IntKind.wrap_i64]; omega
  have hr : n % 16 < 16 := by omega
  have HX := hid (show Tm.hexT n (k + 1) = Tm.hexT (n / 16) k ++ [Tm.digT (k + 1) (n % 16)] from rfl)
  have HL := hid (Tm.hexT_len k (n / 16))
  obtain ⟨m, hm⟩ : ∃ m, m = n / 16 := ⟨_, rfl⟩
  obtain ⟨r, hr0⟩ : ∃ r, r = n % 16 := ⟨_, rfl⟩
  rw [← hm] at IH hsh HX HL
  rw [← hr0] at h15 hr HX
  obtain ⟨y, hy⟩ : ∃ y, y = Tm.hexT m k := ⟨_, rfl⟩
  rw [← hy] at IH HX HL
  have hlen : y.length ≤ 8 := by rw [HL.out]; omega
  have hrw : IntKind.i64.wrap ((r : Int) + 1) = ((r + 1 : Nat) : Int) := by rw [IntKind.wrap_i64]; omega
  have r0 : (0 : Int) ≤ (r : Int) := by omega
  have r1 : (r : Int) ≤ ((r + 1 : Nat) : Int) := by omega
  have r2 : ((r + 1 : Nat) : Int) ≤ 16 := by omega
  have kw : IntKind.i64.wrap (k : Int) = (k : Int) := by rw [IntKind.wrap_i64]; omega
  have ka : bits BinOp.and IntKind.i64 (((k + 1 : Nat)) : Int) 1 = (((k + 1) % 2 : Nat) : Int) := by
    have := sp_and (k + 1) 1 (by omega) (by omega)
    rw [show (1 : Int) = ((1 : Nat) : Int) from rfl, this, Nat.and_one_is_mod]
  obtain ⟨K, hK⟩ : ∃ K, K = k + 1 := ⟨_, rfl⟩
  rw [← hK] at e0 hk1 ka HX ⊢
  rw [digT_par] at HX
  clear hm hr0 hy HL
  rcases Nat.mod_two_eq_zero_or_one K with hp | hp
  · rw [hp] at ka HX
    have EX := dig_ext0 r hr
    clear hp hK
    go_enter Tryz.func34, Tryz.ntmps34
    go_wp2
    obtain ⟨w1, hw1⟩ : ∃ w1, w1 = W.alloc (.cells #[.string ⟨#[48, 49, 50, 51, 52, 53, 54, 55, 56, 57, 97, 98, 99, 100, 101, 102]⟩, .string ⟨#[48, 49, 50, 51, 52, 53, 54, 55, 56, 57, 65, 66, 67, 68, 69, 70]⟩] 9) := ⟨_, rfl⟩
    rw [← hw1]
    have HB1 := hid (show Below W.heap.size W w1 by rw [hw1]; exact (Below.refl _ _).alloc (Nat.le_refl _) _)
    clear hw1 HB0
    refine wp_region_later w1.heap.size (by kernel_rfl) (by kernel_rfl) ?_
    repeat (go_big_quiet_step (first | (go_at_call 34; with_reducible exact Later.call (Nat.le_refl _) (IH.out _))))
    refine wpQuiet_nil ?_
    rintro wq ⟨q, hq⟩
    have HBq := hid (show Below W.heap.size W wq by rw [hq]; exact below_then HB1.out q.low)
    clear hq q
    go_wp2
    go_ret
    refine ⟨?_, HBq.out⟩
    rw [HX.out]
    exact congrArg (fun z => Ending.returned (.string z)) (ba_app y [Tm.digT 0 r])
  · rw [hp] at ka HX
    have EX := dig_ext1 r hr
    clear hp hK
    go_enter Tryz.func34, Tryz.ntmps34
    go_wp2
    obtain ⟨w1, hw1⟩ : ∃ w1, w1 = W.alloc (.cells #[.string ⟨#[48, 49, 50, 51, 52, 53, 54, 55, 56, 57, 97, 98, 99, 100, 101, 102]⟩, .string ⟨#[48, 49, 50, 51, 52, 53, 54, 55, 56, 57, 65, 66, 67, 68, 69, 70]⟩] 9) := ⟨_, rfl⟩
    rw [← hw1]
    have HB1 := hid (show Below W.heap.size W w1 by rw [hw1]; exact (Below.refl _ _).alloc (Nat.le_refl _) _)
    clear hw1 HB0
    refine wp_region_later w1.heap.size (by kernel_rfl) (by kernel_rfl) ?_
    repeat (go_big_quiet_step (first | (go_at_call 34; with_reducible exact Later.call (Nat.le_refl _) (IH.out _))))
    refine wpQuiet_nil ?_
    rintro wq ⟨q, hq⟩
    have HBq := hid (show Below W.heap.size W wq by rw [hq]; exact below_then HB1.out q.low)
    clear hq q
    go_wp2
    go_ret
    refine ⟨?_, HBq.out⟩
    rw [HX.out]
    exact congrArg (fun z => Ending.returned (.string z)) (ba_app y [Tm.digT 1 r])
theorem hexs_any : ∀ (k n : Nat) (W : World), k ≤ 8 → n ≤ 4294967295 → Calls Tryz.prog 34 #[.int .i64 n, .int .i64 k] W fun e W' => e = .returned (str (Tm.hexT n k)) ∧ Below W.heap.size W W'
  | 0, n, W, _, hn => hexs_zero n W
  | k + 1, n, W, hk, hn => hexs_step k n W hk hn (hid fun W' => hexs_any k (n / 16) W' (by omega) (by omega))
end Go.Proofs.YtmfnbmbedplgcaaGreatDoor
namespace Go.Proofs.YtmfnbmbedplgcaaGreatDoor
set_option linter.unusedVariables false
set_option linter.unusedSimpArgs false
set_option maxRecDepth 100000
open Go.ChangeShapes Go.WideShapes Go.ChangeAt Go.RowKit
def runeC (r : Nat) : Value := .int .i32 (r : Nat)
theorem runesFrom_rns (l : List UInt8) : ∀ (n i : Nat) (acc : Array Value), Conv.runesFrom ⟨l.toArray⟩ n i acc = acc ++ ((Tm.rnsF n (l.drop i)).map runeC).toArray
  | 0, i, acc => by simp [Conv.runesFrom, Tm.rnsF]
  | n + 1, i, acc => by
    have hsz : (⟨l.toArray⟩ : ByteArray).size = l.length := by simp [ByteArray.size]
    have hd := Lib.decodeL_drop ⟨l.toArray⟩ i
    have hl : (⟨l.toArray⟩ : ByteArray).data.toList = l := by simp
    rw [hl] at hd
    unfold Conv.runesFrom Tm.rnsF
    by_cases h : i < l.length
    · rw [if_pos (by rw [hsz]; exact h), if_neg (by intro e; have := congrArg List.length e; simp at this; omega)]
      simp only
      rw [runesFrom_rns l n, ← hd, List.drop_drop]
      simp only [List.map_cons]
      apply Array.ext'
      simp [runeC]
    · rw [if_neg (by rw [hsz]; exact h), if_pos (List.drop_eq_nil_of_le (by omega))]
      simp
theorem runes_all (l : List UInt8) : Conv.runesFrom ⟨l.toArray⟩ l.length 0 #[] = ((Tm.rns l).map runeC).toArray := by
  rw [runesFrom_rns]; simp [Tm.rns]
set_option maxHeartbeats 4000000 in
theorem spelt_show (k : Nat) (t x : List UInt8) (all : Bool) (W : World) (ha : all = false ∨ k = 2) (hk : 1 ≤ k ∧ k ≤ 5) (ht : t.length ≤ 1000000) (hx : x.length ≤ 1000000) :
    Calls Tryz.prog 20 #[tmV (k : Nat) t x, .bool all] W fun e W' => e = .returned (str (Tm.spT all k t x)) ∧ Below W.heap.size W W' := by
  have SH := hid fun W => rshow_any k t x W hk (by omega) (by omega)
  have HZ := hid (show Tm.spT all k t x = Tm.showT k t x by unfold Tm.spT; rw [if_pos ha])
  rcases ha with rfl | rfl
  · clear hk ht hx
    go_enter Tryz.func20, Tryz.ntmps20
    go_wp2_with (go_at_call 32; refine (SH.out _).mono ?_; rintro e w' ⟨rfl, hb⟩)
    have HB := hid (below_then ((Below.refl W.heap.size W).alloc (Nat.le_refl _) _) hb)
    clear hb
    go_wp2
    go_ret
    exact ⟨by rw [HZ.out]; rfl, HB.out⟩
  · clear hk ht hx
    have hall : all = true ∨ all = false := by cases all <;> simp
    rcases hall with rfl | rfl
    all_goals
      go_enter Tryz.func20, Tryz.ntmps20
      go_wp2_with (go_at_call 32; refine (SH.out _).mono ?_; rintro e w' ⟨rfl, hb⟩)
      have HB := hid (below_then ((Below.refl W.heap.size W).alloc (Nat.le_refl _) _) hb)
      clear hb
      go_wp2
      go_ret
      exact ⟨by rw [HZ.out]; rfl, HB.out⟩
theorem conv_runes (t : List UInt8) (ht : t.length ≤ 1000000) (w : World) : ∃ (cap : Nat) (w3 : World), (convert 9 69 (str t)).run Tryz.prog w = .ok (.slice (some ⟨w.heap.size, 0, none⟩) (Tm.rns t).length cap) w3 ∧ Below w.heap.size w w3 ∧ (∀ j r, (Tm.rns t)[j]? = some r → w3.cell? ⟨w.heap.size, j, none⟩ = some (runeC r)) ∧ w3.heap.size = w.heap.size + 1 := by
  have hsz : (⟨t.toArray⟩ : ByteArray).size = t.length := by simp [ByteArray.size]
  have hl := Tm.rns_len t
  have e := runes_all t
  have h := run_runes_of_string (P := Tryz.prog) w 9 69 21 ⟨t.toArray⟩ Tryz.underlying9 Tryz.underlying69 Tryz.underlying21 (by rw [hsz, e]; simp; omega)
  rw [hsz, e] at h
  simp only [List.size_toArray, List.length_map] at h
  refine ⟨_, _, h, ?_, ?_, by simp⟩
  · exact (below_drawn (Below.refl _ _) 1).alloc (Nat.le_refl _) _
  · intro j r hr
    obtain ⟨hj, _⟩ := List.getElem?_eq_some_iff.1 hr
    rw [show w.heap.size = w.drew.heap.size from rfl, cell_new]
    rw [Array.getElem?_append_left (by simpa using hj)]
    simp [hr]
set_option maxHeartbeats 4000000 in
theorem spelt_esc (k : Nat) (t x : List UInt8) (W : World) (hk : k = 1 ∨ k = 3 ∨ k = 4 ∨ k = 5) (ht : t.length ≤ 1000000) (hx : x.length ≤ 1000000) :
    Calls Tryz.prog 20 #[tmV (k : Nat) t x, .bool true] W fun e W' => e = .returned (str (Tm.spT true k t x)) ∧ Below W.heap.size W W' := by
  have hk2 : ((k : Int) == 2) = false := beq_eq_false_iff_ne.2 (by omega)
  have HK := hid hk
  have HRO := hid (Tm.rns_ok t)
  have hrl : (Tm.rns t).length ≤ 1000000 := Nat.le_trans (Tm.rns_len t) ht
  have CV := hid (conv_runes t ht)
  obtain ⟨R, hR⟩ : ∃ R, R = Tm.rns t := ⟨_, rfl⟩
  have HR := hid hR
  rw [← hR] at HRO hrl CV
  obtain ⟨n, hn⟩ : ∃ n, n = R.length := ⟨_, rfl⟩
  have HN := hid hn
  rw [← hn] at hrl CV
  clear hk hR hn
  go_enter Tryz.func20, Tryz.ntmps20
  go_upto_region 4 with fail
  obtain ⟨w2, hw2⟩ : ∃ w2, w2 = W.alloc (.cells #[.int .i64 (k : Nat), str t, str x] 26) := ⟨_, rfl⟩
  rw [← hw2]
  have HT := hid (fun w' (h : Below w2.heap.size w2 w') => show w'.cell? ⟨W.heap.size, 0, none⟩ = some (.int .i64 (k : Nat)) ∧ w'.cell? ⟨W.heap.size, 1, none⟩ = some (str t) ∧ w'.cell? ⟨W.heap.size, 2, none⟩ = some (str x) ∧ Below W.heap.size W w' by rw [hw2] at h; exact tm_cells h)
  clear hw2
  obtain ⟨cap, w3, cv, hb3, hc3, hs3⟩ := CV.out w2
  have HB3 := hid hb3
  have HC3 := hid hc3
  have HS3 := hid hs3
  have t1 := (HT.out w2 (Below.refl _ _)).2.1
  clear hb3 hc3 hs3
  go_wp2
  go_loopg [5, 7] n (fun gk s5 s7 wr => ∃ (i : Nat) (s : List UInt8), s5 = str s ∧ s7 = .int .i64 i ∧ i ≤ n ∧ n - i ≤ gk ∧ Hid (Below w3.heap.size w3 wr) ∧ Hid (s = Tm.spS (R.take i)) ∧ s.length ≤ 10 * i)
  case atStart => exact ⟨0, [], rfl, rfl, Nat.zero_le _, Nat.le_refl _, Below.refl _ _, hid rfl, by simp⟩
  case round =>
    obtain ⟨i, s, rfl, rfl, hin, hg, HB, HS, hsl⟩ := hrel
    by_cases hlt : i < n
    · have hltz : (i : Int) < (n : Int) := by omega
      have hiR : i < R.length := by rw [← HN.out]; exact hlt
      obtain ⟨r, hr⟩ : ∃ r, R[i]? = some r := ⟨_, List.getElem?_eq_getElem hiR⟩
      have hok := HRO.out r (List.mem_of_getElem? hr)
      have hr1 : r ≤ 1114111 := by unfold Tm.okRune at hok; omega
      have cr : wr.cell? ⟨w2.heap.size, i, none⟩ = some (.int .i32 (r : Nat)) := below_keep HB.out (HC3.out i r hr)
      have HX := hid (fun W' => hexs_any 8 r W' (by omega) (by omega))
      have hwr : IntKind.i64.wrap (r : Int) = (r : Int) := by rw [IntKind.wrap_i64]; omega
      have HTK := hid (show Tm.spS (R.take (i + 1)) = Tm.spS (R.take i) ++ 92 :: 85 :: Tm.hexT r 8 by
        rw [List.take_add_one, hr]; exact Tm.spS_snoc _ _)
      have hy8 := Tm.hexT_len 8 r
      obtain ⟨y, hy⟩ : ∃ y, y = Tm.hexT r 8 := ⟨_, rfl⟩
      rw [← hy] at HX HTK hy8
      have hyl : y.length ≤ 8 := by omega
      clear hy hy8 hr hok hiR t1 cv
      have HX : Hid (∀ W', Calls Tryz.prog 34 #[.int .i64 (r : Nat), .int .i64 8] W' fun e W'' => e = .returned (str y) ∧ Below W'.heap.size W' W'') := HX
      have l1 : (s ++ [92, 85]).length ≤ 100000000 := by simp only [List.length_append, List.length_cons, List.length_nil]; omega
      go_wp2_with (go_at_call 34; refine (HX.out _).mono ?_; rintro e w4 ⟨rfl, hb⟩)
      have HB4 := hid (below_then HB.out hb)
      clear hb cr
      go_wp2
      go_roundg (n - (i + 1))
      case measure => omega
      case rel => exact ⟨i + 1, s ++ [92, 85] ++ y, by simp [str, ba_append], by go_num, by omega, by omega, HB4.out, hid (by rw [HTK.out, ← HS.out]; simp), by simp only [List.length_append, List.length_cons, List.length_nil]; omega⟩
    · obtain rfl : i = n := by omega
      have hltz : ¬ (i : Int) < (i : Int) := by omega
      have HE := hid (show s = Tm.spS R by rw [HS.out, HN.out, List.take_length])
      have hbr := below_then HB3.out HB.out
      obtain ⟨t0, t1', t2, hb5⟩ := HT.out wr hbr
      have HB5 := hid hb5
      clear hb5 hbr t1' t1 cv
      rcases HK.out with hk | hk | hk | hk
      · have HKK := hid hk
        have e1 : ((k : Int) == 1) = true := by rw [hk]; rfl
        have e4 : ((k : Int) == 4) = false := by rw [hk]; rfl
        have e5 : ((k : Int) == 5) = false := by rw [hk]; rfl
        clear hk
        go_wp2
        go_ret
        refine ⟨?_, HB5.out⟩
        obtain rfl := HKK.out
        rw [show Tm.spT true 1 t x = 60 :: (Tm.spS (Tm.rns t) ++ [62]) from rfl, ← HR.out, ← HE.out]
        simp [ba_append]
      · have HKK := hid hk
        have e1 : ((k : Int) == 1) = false := by rw [hk]; rfl
        have e4 : ((k : Int) == 4) = false := by rw [hk]; rfl
        have e5 : ((k : Int) == 5) = false := by rw [hk]; rfl
        clear hk
        go_wp2
        go_ret
        refine ⟨?_, HB5.out⟩
        obtain rfl := HKK.out
        rw [show Tm.spT true 3 t x = 34 :: (Tm.spS (Tm.rns t) ++ [34]) from rfl, ← HR.out, ← HE.out]
        simp [ba_append]
      · have HKK := hid hk
        have e1 : ((k : Int) == 1) = false := by rw [hk]; rfl
        have e4 : ((k : Int) == 4) = true := by rw [hk]; rfl
        have e5 : ((k : Int) == 5) = false := by rw [hk]; rfl
        clear hk
        go_wp2
        go_ret
        refine ⟨?_, HB5.out⟩
        obtain rfl := HKK.out
        rw [show Tm.spT true 4 t x = 34 :: (Tm.spS (Tm.rns t) ++ 34 :: 64 :: x) from rfl, ← HR.out, ← HE.out]
        simp [ba_append]
      · have HKK := hid hk
        have e1 : ((k : Int) == 1) = false := by rw [hk]; rfl
        have e4 : ((k : Int) == 4) = false := by rw [hk]; rfl
        have e5 : ((k : Int) == 5) = true := by rw [hk]; rfl
        clear hk
        go_wp2
        go_ret
        refine ⟨?_, HB5.out⟩
        obtain rfl := HKK.out
        rw [show Tm.spT true 5 t x = 34 :: (Tm.spS (Tm.rns t) ++ 34 :: 94 :: 94 :: 60 :: (x ++ [62])) from rfl, ← HR.out, ← HE.out]
        simp [ba_append]
theorem spelt_any (k : Nat) (t x : List UInt8) (all : Bool) (W : World) (hk : 1 ≤ k ∧ k ≤ 5) (ht : t.length ≤ 1000000) (hx : x.length ≤ 1000000) :
    Calls Tryz.prog 20 #[tmV (k : Nat) t x, .bool all] W fun e W' => e = .returned (str (Tm.spT all k t x)) ∧ Below W.heap.size W W' := by
  by_cases h : all = false ∨ k = 2
  · exact spelt_show k t x all W h hk ht hx
  · have ha : all = true := by cases all with
      | true => rfl
      | false => exact absurd (.inl rfl) h
    subst ha
    exact spelt_esc k t x W (by
      have : k ≠ 2 := fun e => h (.inr e)
      omega) ht hx
end Go.Proofs.YtmfnbmbedplgcaaGreatDoor
