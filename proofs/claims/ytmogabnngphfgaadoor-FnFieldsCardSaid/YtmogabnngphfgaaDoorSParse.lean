/- Contract: the model's ParseField answers the field with this text, or none. -/
import Derived.Test.YtmogabnngphfgaaDoorFParse2
import Derived.Test.YtmogabnngphfgaaDoorPField
namespace Go.Proofs.YtmogabnngphfgaaDoor
open Go.RowKit

/-- Valid fields with one text are one. -/
theorem text_one {d l f x d' l' f' x' : Int} (h : FOk d l f x) (h' : FOk d' l' f' x') (he : textN d.toNat l.toNat (f - 1).toNat (x - 1).toNat = textN d'.toNat l'.toNat (f' - 1).toNat (x' - 1).toNat) : d = d' ∧ l = l' ∧ f = f' ∧ x = x' := by
  have r1 := readP_valid h
  have r2 := readP_valid h'
  rw [he, r2] at r1
  simp only [Prod.mk.injEq] at r1
  obtain ⟨⟨_, _⟩, ⟨_, _⟩, ⟨_, _⟩, hx⟩ := h
  obtain ⟨⟨_, _⟩, ⟨_, _⟩, ⟨_, _⟩, hx'⟩ := h'
  have h0 : 0 ≤ x := by rcases hx with ⟨_, _, h⟩ | ⟨_, h, _⟩ <;> omega
  have h0' : 0 ≤ x' := by rcases hx' with ⟨_, _, h⟩ | ⟨_, h, _⟩ <;> omega
  omega
theorem isParse_one {s : ByteArray} {p q : Nat} (hp : IsParse 9 s p) (hq : IsParse 9 s q) (h : 1 ≤ p) : p = q := by
  rcases hp with ⟨rfl, _⟩ | ⟨h1, h2, h3⟩
  · omega
  · have := isParse_hit (by omega) hq (i := p - 1) (by omega) h3
    omega
/-- A divided field's text. -/
theorem isF_of {s : ByteArray} {d l f x : Int} (h : FOk d l f x) (h0 : d ≠ 0) (ht : textN d.toNat l.toNat (f - 1).toNat (x - 1).toNat = s) : IsF s d.toNat l.toNat (f - 1).toNat (x - 1).toNat := by
  obtain ⟨⟨_, _⟩, ⟨_, _⟩, ⟨_, _⟩, hx⟩ := h
  rcases hx with ⟨e, _⟩ | ⟨_, hx, hne⟩
  · exact absurd e h0
  · exact ⟨by omega, by omega, by omega, by omega, ht⟩
theorem plain_text {s : ByteArray} {d l f x : Int} (h : FOk d l f x) (h0 : d = 0) (ht : textN d.toNat l.toNat (f - 1).toNat (x - 1).toNat = s) : 1 ≤ f ∧ f ≤ 9 ∧ wordN (f - 1).toNat = s := by
  subst h0
  refine ⟨h.2.2.1.1, h.2.2.1.2, ?_⟩
  rw [← ht]
  unfold textN
  rw [if_pos (show (0 : Int).toNat = 0 from rfl)]
theorem l3Parse_same (s : ByteArray) (hs : s.size ≤ 1048576) {d l f x : Int} {ok : Bool} (h : PAns s d l f x ok) (w : World) :
    Calls Tryd.prog 37 #[.string s] w (AnsF w d l f x ok) := by
  obtain ⟨p, hp⟩ := isParse_ex s 9
  rcases Nat.eq_zero_or_pos p with h0 | h0
  · subst h0
    -- no plain field has this text
    have hnp : ∀ {d l f x : Int}, FOk d l f x → textN d.toNat l.toNat (f - 1).toNat (x - 1).toNat = s → d ≠ 0 := fun hf ht e => by
      obtain ⟨a1, a2, a3⟩ := plain_text hf e ht
      have := isParse_hit (by omega) hp (i := (_ - 1 : Int).toNat) (by omega) a3
      omega
    by_cases hsh : 60 < s.size ∨ (splitL 32 s.data.toList).length < 4
    · have c := l3Parse_short s hs hp hsh w
      rcases h with ⟨_, hf, ht⟩ | ⟨rfl, ⟨rfl, rfl, rfl, rfl⟩, _⟩
      · exfalso
        have hF := isF_of hf (hnp hf ht) ht
        have := (isF_size hF).2
        obtain ⟨hs', h1, h2⟩ := isF_words hF
        rcases hsh with h3 | h3
        · omega
        · rw [h2] at h3
          simp at h3
          omega
      · exact c
    · have hs60 : s.size ≤ 60 := by omega
      obtain ⟨n, hn⟩ : ∃ n, (splitL 32 s.data.toList).length = n + 3 := ⟨(splitL 32 s.data.toList).length - 3, by omega⟩
      have hn1 : 1 ≤ n := by omega
      obtain ⟨la, hla⟩ : ∃ la, (splitL 32 s.data.toList)[n]? = some la := ⟨_, List.getElem?_eq_getElem (by omega)⟩
      obtain ⟨lb, hlb⟩ : ∃ lb, (splitL 32 s.data.toList)[n + 2]? = some lb := ⟨_, List.getElem?_eq_getElem (by omega)⟩
      obtain ⟨p1, hp1⟩ := isParse_ex ⟨la.toArray⟩ 9
      obtain ⟨p2, hp2⟩ := isParse_ex ⟨lb.toArray⟩ 9
      -- a divided field with this text has these two words
      have words : ∀ {d l f x : Int}, FOk d l f x → textN d.toNat l.toNat (f - 1).toNat (x - 1).toNat = s → f = p1 ∧ x = p2 := fun {d l f x} hf ht => by
        have hd0 := hnp hf ht
        have hF := isF_of hf hd0 ht
        obtain ⟨hs', h1, h2⟩ := isF_words hF
        rw [h2] at hn hla hlb
        have hl : hs'.length = n := by simp at hn; omega
        rw [List.getElem?_append_right (by omega)] at hla hlb
        rw [show n - hs'.length = 0 by omega] at hla
        rw [show n + 2 - hs'.length = 2 by omega] at hlb
        have ja : (wordN (f - 1).toNat).data.toList = la := Option.some.inj hla
        have jb : (wordN (x - 1).toNat).data.toList = lb := Option.some.inj hlb
        have ea : wordN (f - 1).toNat = ⟨la.toArray⟩ := by rw [← ja, strOf_bytes]
        have eb : wordN (x - 1).toNat = ⟨lb.toArray⟩ := by rw [← jb, strOf_bytes]
        have g1 := isParse_hit (by omega) hp1 (i := (f - 1).toNat) hF.2.2.1.1 ea
        have g2 := isParse_hit (by omega) hp2 (i := (x - 1).toNat) hF.2.2.1.2 eb
        obtain ⟨⟨_, _⟩, ⟨_, _⟩, ⟨_, _⟩, hx⟩ := hf
        have hx1 : 1 ≤ x := by rcases hx with ⟨e, _⟩ | ⟨_, h, _⟩; exact absurd e hd0; exact h.1
        omega
      rcases h with ⟨rfl, hf, ht⟩ | ⟨rfl, ⟨rfl, rfl, rfl, rfl⟩, hno⟩
      · obtain ⟨rfl, rfl⟩ := words hf ht
        have hd0 := hnp hf ht
        have hdd := hf.1
        have hll := hf.2.1
        obtain ⟨dt, rfl⟩ : ∃ dt : Nat, d = (dt : Int) := ⟨d.toNat, by omega⟩
        obtain ⟨lt, rfl⟩ : ∃ lt : Nat, l = (lt : Int) := ⟨l.toNat, by omega⟩
        have e1 : ((p1 : Int) - 1).toNat = p1 - 1 := by omega
        have e2 : ((p2 : Int) - 1).toNat = p2 - 1 := by omega
        rw [show (dt : Int).toNat = dt by omega, show (lt : Int).toNat = lt by omega, e1, e2] at ht
        have c := l3Parse_loop s ⟨la.toArray⟩ ⟨lb.toArray⟩ hs60 hp n hn1 hn (by rw [hla]) (by rw [hlb]) p1 p2 hp1 hp2 dt lt (by omega) (by omega) (fun d' l' _ _ _ => by
          constructor
          · rintro ⟨hf', ht'⟩
            have := text_one hf' hf (by rw [show (d' : Int).toNat = d' by omega, show (l' : Int).toNat = l' by omega, show (dt : Int).toNat = dt by omega, show (lt : Int).toNat = lt by omega, e1, e2, ht, ht'])
            omega
          · rintro ⟨rfl, rfl⟩
            exact ⟨hf, ht⟩) w
        refine c.mono fun e w' hh => ?_
        unfold ParseAns at hh
        rw [if_pos (by omega)] at hh
        exact hh
      · have c := l3Parse_loop s ⟨la.toArray⟩ ⟨lb.toArray⟩ hs60 hp n hn1 hn (by rw [hla]) (by rw [hlb]) p1 p2 hp1 hp2 8 0 (by omega) (by omega) (fun d' l' _ _ _ => by
          constructor
          · rintro ⟨hf', ht'⟩
            exact absurd (by rw [show (d' : Int).toNat = d' by omega, show (l' : Int).toNat = l' by omega, show ((p1 : Int) - 1).toNat = p1 - 1 by omega, show ((p2 : Int) - 1).toNat = p2 - 1 by omega]; exact ht') (hno d' l' p1 p2 hf')
          · rintro ⟨rfl, _⟩
            omega) w
        refine c.mono fun e w' hh => ?_
        unfold ParseAns at hh
        rw [if_neg (by omega)] at hh
        exact hh
  · have hp' := hp
    rcases hp with ⟨e, _⟩ | ⟨h1, h2, h3⟩
    · omega
    · have hf : FOk 0 0 (p : Int) 0 := ⟨by omega, by omega, by omega, .inl ⟨rfl, rfl, rfl⟩⟩
      have ht : textN (0 : Int).toNat (0 : Int).toNat ((p : Int) - 1).toNat ((0 : Int) - 1).toNat = s := by
        rw [show ((p : Int) - 1).toNat = p - 1 by omega, ← h3]
        rfl
      rcases h with ⟨rfl, hf', ht'⟩ | ⟨_, _, hno⟩
      · obtain ⟨rfl, rfl, rfl, rfl⟩ := text_one hf' hf (by rw [ht', ht])
        exact l3Parse_plain s hs p h1 hp' w
      · exact absurd ht (hno _ _ _ _ hf)
theorem specParse_same (s : ByteArray) (hs : s.size ≤ 1048576) {d l f x : Int} {ok : Bool} (h : PAns s d l f x ok) (w : World) :
    Calls Tryd.prog 18 #[.string s] w (AnsF w d l f x ok) := by
  have c := fun W => l3Parse_same s hs h W
  clear h
  have b0 := BoxF.new w [.int .i64 0, .int .i64 0, .int .i64 0, .int .i64 0] 25
  go_enter Tryd.func18, Tryd.ntmps18
  go_wp2_with fail
  refine (c _).mono ?_
  rintro e w1 ⟨rfl, hb⟩
  obtain ⟨x0, x1, x2, x3, xf⟩ := (b0.below hb).four
  have B1 := Lib.hid (((Below.refl _ w).alloc (Nat.le_refl _) _).trans (hb.mono (by simp)))
  clear hb b0 c
  go_wp2_with fail
  exact bodyPost_ret (v := .tuple #[.agg #[.int .i64 d, .int .i64 l, .int .i64 f, .int .i64 x], .bool ok]) (by simp [results, Tryd.results18, go_sem, x0, x1, x2, x3]) rfl ⟨rfl, B1.out.grown (grown4 w1 w.heap.size _ _ _ _) B1.out.size (fun k hk => by cases hk; exact Nat.le_refl _)⟩
end Go.Proofs.YtmogabnngphfgaaDoor
