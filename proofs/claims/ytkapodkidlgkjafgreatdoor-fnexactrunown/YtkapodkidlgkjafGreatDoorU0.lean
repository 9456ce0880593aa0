/- Batches that go on, in plain: their slots, their things, which are ok. -/
import Derived.Test.YtkapodkidlgkjafGreatDoorJ8
namespace Go.Proofs.YtkapodkidlgkjafGreatDoor
open Go.Maps

/-- Which thing is a slot. -/
structure Sl where
  s : ByteArray
  t : ByteArray
/-- A batch that goes on. -/
structure Rb where
  nm : ByteArray
  ps : List Ph
  sl : List Sl
  ad : ByteArray
  si : Int
  st : Int
def slNames (l : List Sl) : List ByteArray := l.map (·.s)
def slThings (l : List Sl) : List ByteArray := l.map (·.t)
/-- The thing of the first slot of a name. -/
def firstT (l : List Sl) (s : ByteArray) : ByteArray := match l.find? fun x => x.s.toList == s.toList with
  | some x => x.t
  | none => ⟨#[]⟩
/-- .. of the last. -/
def lastT (l : List Sl) (s : ByteArray) : ByteArray := firstT l.reverse s
theorem firstT_cons (x : Sl) (l : List Sl) (s : ByteArray) : firstT (x :: l) s = if (x.s.toList == s.toList) = true then x.t else firstT l s := by
  unfold firstT
  rw [List.find?_cons]
  cases h : (x.s.toList == s.toList) <;> simp
theorem lastT_snoc (x : Sl) (l : List Sl) (s : ByteArray) : lastT (l ++ [x]) s = if (x.s.toList == s.toList) = true then x.t else lastT l s := by
  unfold lastT
  rw [List.reverse_append]
  exact firstT_cons x l.reverse s
theorem firstT_out : ∀ {l : List Sl} {s : ByteArray}, s.toList ∉ keys (slNames l) → firstT l s = ⟨#[]⟩
  | [], _, _ => rfl
  | x :: r, s, h => by
    simp only [slNames, keys, List.map_cons, List.mem_cons, not_or] at h
    have h1 : ¬ (x.s.toList == s.toList) = true := fun e => h.1 (by simpa using (beq_iff_eq.1 e).symm)
    rw [firstT_cons, if_neg h1]
    exact firstT_out (by simpa [slNames, keys] using h.2)
theorem firstT_mem : ∀ {l : List Sl}, (keys (slNames l)).Nodup → ∀ {x : Sl}, x ∈ l → firstT l x.s = x.t
  | [], _, _, h => by simp at h
  | y :: r, hn, x, h => by
    have hn' : y.s.toList ∉ keys (slNames r) ∧ (keys (slNames r)).Nodup := by simpa [slNames, keys] using hn
    rw [firstT_cons]
    rcases List.mem_cons.1 h with rfl | h
    · rw [if_pos (by simp)]
    · have h1 : ¬ (y.s.toList == x.s.toList) = true := fun e => hn'.1 (by
        rw [beq_iff_eq.1 e]
        simp only [slNames, keys, List.mem_map]
        exact ⟨x.s, ⟨x, h, rfl⟩, rfl⟩)
      rw [if_neg h1]
      exact firstT_mem hn'.2 h
theorem firstT_hit : ∀ {l : List Sl} {s : ByteArray} {k : Nat} (hk : k < l.length), (∀ (j : Nat) (x : Sl), j < k → l[j]? = some x → (x.s.toList == s.toList) = false) → ((l[k]).s.toList == s.toList) = true → firstT l s = (l[k]).t
  | x :: r, s, 0, _, _, h => by rw [firstT_cons, if_pos (by simpa using h)]; rfl
  | x :: r, s, k + 1, hk, hal, h => by
    have h0 := hal 0 x (by omega) rfl
    rw [firstT_cons, if_neg (by simp [h0])]
    have := firstT_hit (l := r) (s := s) (k := k) (by simpa using hk) (fun j y hj hy => hal (j + 1) y (by omega) (by simpa using hy)) (by simpa using h)
    simpa using this
theorem firstT_none {l : List Sl} {s : ByteArray} (h : ∀ (j : Nat) (x : Sl), l[j]? = some x → (x.s.toList == s.toList) = false) : firstT l s = ⟨#[]⟩ := by
  refine firstT_out fun hm => ?_
  simp only [slNames, keys, List.mem_map] at hm
  obtain ⟨_, ⟨x, hx, rfl⟩, e⟩ := hm
  obtain ⟨j, hj⟩ := List.mem_iff_getElem?.1 hx
  have := h j x hj
  rw [e] at this; simp at this
theorem nodup_rev {l : List Key} (h : l.Nodup) : l.reverse.Nodup := by
  unfold List.Nodup at *
  rw [List.pairwise_reverse]
  exact h.imp fun h e => h e.symm
theorem last_first {l : List Sl} (hn : (keys (slNames l)).Nodup) (s : ByteArray) : lastT l s = firstT l s := by
  have hr : keys (slNames l.reverse) = (keys (slNames l)).reverse := by simp [keys, slNames]
  by_cases h : s.toList ∈ keys (slNames l)
  · simp only [slNames, keys, List.mem_map] at h
    obtain ⟨_, ⟨x, hx, rfl⟩, e⟩ := h
    obtain rfl := key_inj e
    rw [firstT_mem hn hx]
    exact firstT_mem (l := l.reverse) (by rw [hr]; exact nodup_rev hn) (by simpa using hx)
  · rw [firstT_out h]
    exact firstT_out (by rw [hr]; simpa using h)

/-- The things of slots, each once, ascending. -/
def thE (l : List Sl) (ss : List ByteArray) : List ByteArray := bothL [] (ss.map (firstT l))
def thI (l : List Sl) (ss : List ByteArray) : List Key := uniq (keys (ss.map (lastT l)))
theorem thE_keys (l : List Sl) (ss : List ByteArray) : (keys (thE l ss)).Pairwise (· < ·) ∧ ∀ x, x ∈ keys (thE l ss) ↔ x ∈ keys (ss.map (firstT l)) := by
  obtain ⟨h1, h2⟩ := both_keys (ss.map (firstT l)) []
  exact ⟨h2 (by simp [keys]), fun x => by rw [thE, h1]; simp [keys]⟩
theorem things_same {l : List Sl} {ss tt : List ByteArray} (hn : (keys (slNames l)).Nodup) (hm : ∀ x, x ∈ keys ss ↔ x ∈ keys tt) : keys (thE l ss) = thI l tt := by
  obtain ⟨e1, e2⟩ := thE_keys l ss
  obtain ⟨u1, u2⟩ := uniq_keys (keys (tt.map (lastT l)))
  refine asc_unique _ _ e1 u1 fun x => ?_
  rw [e2]
  show _ ↔ x ∈ uniq _
  rw [u2]
  have hl : tt.map (lastT l) = tt.map (firstT l) := List.map_congr_left fun s _ => last_first hn s
  rw [hl]
  simp only [keys, List.mem_map] at hm ⊢
  constructor
  · rintro ⟨_, ⟨s, hs, rfl⟩, rfl⟩
    obtain ⟨s', hs', e⟩ := (hm s.toList).1 ⟨s, hs, rfl⟩
    obtain rfl := key_inj e
    exact ⟨_, ⟨_, hs', rfl⟩, rfl⟩
  · rintro ⟨_, ⟨s, hs, rfl⟩, rfl⟩
    obtain ⟨s', hs', e⟩ := (hm s.toList).2 ⟨s, hs, rfl⟩
    obtain rfl := key_inj e
    exact ⟨_, ⟨_, hs', rfl⟩, rfl⟩
theorem nodup_of_len : ∀ (m l : List Key), l.Nodup → (∀ x ∈ l, x ∈ m) → m.length ≤ l.length → m.Nodup
  | [], _, _, _, _ => List.nodup_nil
  | a :: m, l, hn, h, hl => by
    simp only [List.length_cons] at hl
    have hsub : ∀ x ∈ l.erase a, x ∈ m := fun x hx => by
      have hx' := (List.Nodup.mem_erase_iff hn).1 hx
      rcases List.mem_cons.1 (h x hx'.2) with e | e
      · exact absurd e hx'.1
      · exact e
    have he := List.length_erase (a := a) (l := l)
    refine List.nodup_cons.2 ⟨fun ha => ?_, nodup_of_len m (l.erase a) (hn.erase a) hsub (by split at he <;> omega)⟩
    have := len_sub m l hn fun x hx => by
      rcases List.mem_cons.1 (h x hx) with e | e
      · rw [e]; exact ha
      · exact e
    omega
theorem asc_nodup {l : List Key} (h : l.Pairwise (· < ·)) : l.Nodup := h.imp fun h e => by subst e; exact key_irrefl _ h
theorem uniq_len (l : List Key) : (uniq l).length = l.length ↔ l.Nodup := by
  obtain ⟨u1, u2⟩ := uniq_keys l
  constructor
  · intro h
    exact nodup_of_len l (uniq l) (asc_nodup u1) (fun x hx => (u2 x).1 hx) (by omega)
  · intro h
    have h1 := len_sub l (uniq l) (asc_nodup u1) (fun x hx => (u2 x).1 hx)
    have h2 := len_sub (uniq l) l h (fun x hx => (u2 x).2 hx)
    omega

/-- The first slots are those of a list, each with a thing that is a name. -/
def SlP (l : List Sl) (ns : List ByteArray) (i : Nat) : Prop := ∀ (j : Nat) (x : Sl), j < i → l[j]? = some x → (∃ n, ns[j]? = some n ∧ x.s.toList = n.toList) ∧ nameB x.t = true
/-- .. no two of them the same thing. -/
def SlD (l : List Sl) (i : Nat) : Prop := ∀ (j k : Nat) (x y : Sl), j < i → k < j → l[j]? = some x → l[k]? = some y → y.t.toList ≠ x.t.toList
def SlOk (l : List Sl) (ns : List ByteArray) : Prop := l.length = ns.length ∧ SlP l ns l.length ∧ SlD l l.length
theorem SlP.step {l : List Sl} {ns : List ByteArray} {i : Nat} (h : SlP l ns i) (hi : i < l.length) (hn : i < ns.length) (h1 : ((l[i]).s.toList == (ns[i]).toList) = true) (h2 : nameB (l[i]).t = true) : SlP l ns (i + 1) := fun j x hj hx => by
  rcases Nat.lt_or_ge j i with h' | h'
  · exact h j x h' hx
  · obtain rfl : j = i := by omega
    obtain ⟨_, rfl⟩ := List.getElem?_eq_some_iff.1 hx
    exact ⟨⟨ns[j], by simp [hn], by simpa using h1⟩, h2⟩
theorem SlP.no1 {l : List Sl} {ns : List ByteArray} {i : Nat} (hi : i < l.length) (hn : i < ns.length) (h1 : ((l[i]).s.toList == (ns[i]).toList) = false) : ¬ SlOk l ns := fun ⟨_, h, _⟩ => by
  obtain ⟨⟨n, hn', e⟩, _⟩ := h i l[i] hi (by simp)
  rw [List.getElem?_eq_getElem hn] at hn'
  obtain rfl := Option.some.inj hn'
  rw [e] at h1; simp at h1
theorem SlP.no2 {l : List Sl} {ns : List ByteArray} {i : Nat} (hi : i < l.length) (h1 : nameB (l[i]).t = false) : ¬ SlOk l ns := fun ⟨_, h, _⟩ => by
  rw [(h i l[i] hi (by simp)).2] at h1; cases h1
theorem SlD.step {l : List Sl} {i : Nat} (h : SlD l i) (hi : i < l.length) (hd : ∀ (k : Nat) (y : Sl), k < i → l[k]? = some y → y.t.toList ≠ (l[i]).t.toList) : SlD l (i + 1) := fun j k x y hj hk hx hy => by
  rcases Nat.lt_or_ge j i with h' | h'
  · exact h j k x y h' hk hx hy
  · obtain rfl : j = i := by omega
    obtain ⟨_, rfl⟩ := List.getElem?_eq_some_iff.1 hx
    exact hd k y hk hy
theorem SlD.no {l : List Sl} {ns : List ByteArray} {i k : Nat} (hi : i < l.length) (hk : k < i) (h1 : ((l[k]).t.toList == (l[i]).t.toList) = true) : ¬ SlOk l ns := fun ⟨_, _, h⟩ =>
  h i k l[i] (l[k]'(by omega)) hi hk (by simp) (List.getElem?_eq_getElem (by omega)) (by simpa using h1)
theorem SlP.names {l : List Sl} {ns : List ByteArray} (hl : l.length = ns.length) (h : SlP l ns l.length) : slNames l = ns := by
  refine List.ext_getElem (by simpa [slNames] using hl) fun j h1 h2 => ?_
  have hj : j < l.length := by simpa [slNames] using h1
  obtain ⟨⟨n, hn, e⟩, _⟩ := h j l[j] hj (by simp)
  rw [List.getElem?_eq_getElem h2] at hn
  obtain rfl := Option.some.inj hn
  simp only [slNames, List.getElem_map]
  exact key_inj e
theorem SlD.nodup {l : List Sl} : SlD l l.length ↔ (keys (slThings l)).Nodup := by
  unfold List.Nodup
  rw [List.pairwise_iff_getElem]
  constructor
  · intro h i j hi hj hij
    have hi' : i < l.length := by simpa [keys, slThings] using hi
    have hj' : j < l.length := by simpa [keys, slThings] using hj
    have := h j i l[j] l[i] hj' hij (by simp) (by simp)
    simpa [keys, slThings] using this
  · intro h j k x y hj hk hx hy
    obtain ⟨h1, rfl⟩ := List.getElem?_eq_some_iff.1 hx
    obtain ⟨h2, rfl⟩ := List.getElem?_eq_some_iff.1 hy
    have := h k j (by simpa [keys, slThings] using h2) (by simpa [keys, slThings] using h1) hk
    simpa [keys, slThings] using this
/-- Two slots of one thing leave fewer things than slots. -/
theorem SlP.count {l : List Sl} {ns : List ByteArray} (hl : l.length = ns.length) (h : SlP l ns l.length) (hn : (keys ns).Nodup) : (thI l ns).length = l.length ↔ SlOk l ns := by
  have hnm := SlP.names hl h
  have hm : ns.map (lastT l) = slThings l := by
    rw [← hnm, slNames, List.map_map]
    exact List.map_congr_left fun x hx => by
      show lastT l x.s = x.t
      rw [last_first (by rw [hnm]; exact hn), firstT_mem (by rw [hnm]; exact hn) hx]
  have hc := uniq_len (keys (slThings l))
  rw [thI, hm]
  have hk : (keys (slThings l)).length = l.length := by simp [keys, slThings]
  rw [hk] at hc
  rw [hc, ← SlD.nodup]
  exact ⟨fun hd => ⟨hl, h, hd⟩, fun hd => hd.2.2⟩

/-- The phase of a name. -/
def phOf (ps : List Ph) (nm : ByteArray) : Ph := match ps.find? fun p => p.nm.toList == nm.toList with
  | some p => p
  | none => ⟨⟨#[]⟩, 0, ⟨#[]⟩, ⟨#[]⟩, 0, 0, ⟨#[]⟩, ⟨#[]⟩⟩
theorem phOf_at {ps : List Ph} {nm : ByteArray} {k : Nat} (hk : k < ps.length) (h : atI ps nm = (k : Int)) : phOf ps nm = ps[k] := by
  unfold atI at h
  unfold phOf
  cases hf : ps.findIdx? fun p => p.nm.toList == nm.toList with
  | none =>
    rw [hf] at h
    have h' : (-1 : Int) = (k : Int) := h
    omega
  | some i =>
    rw [hf] at h
    have h' : (i : Int) = (k : Int) := h
    obtain rfl : i = k := by omega
    obtain ⟨h1, h2, h3⟩ := List.findIdx?_eq_some_iff_getElem.1 hf
    have : (ps.find? fun p => p.nm.toList == nm.toList) = some ps[i] := by
      rw [List.find?_eq_some_iff_getElem]
      exact ⟨h2, i, h1, rfl, fun j hj => by simpa using h3 j hj⟩
    rw [this]
def fstN : List Ph → ByteArray
  | [] => ⟨#[]⟩
  | p :: _ => p.nm
theorem fstN_zero {ps : List Ph} (h : 0 < ps.length) : fstN ps = (ps[0]).nm := by
  cases ps with
  | nil => simp at h
  | cons p r => rfl
/-- The slots are those of a recipe that is ok. -/
def SlotsOk (ps : List Ph) (l : List Sl) : Prop := SlOk l (slE ps (fstN ps))
/-- A batch that is ok. -/
def RbOk (x : Rb) : Prop := nameB x.nm = true ∧ recB x.ps = true ∧ SlotsOk x.ps x.sl ∧ 1 ≤ x.st ∧ hasB x.ps x.ad = true ∧ -1 ≤ x.si ∧ x.si < (phOf x.ps x.ad).wi
/-- What it may yet need from a phase on; what it needs now. -/
noncomputable def rbThings (x : Rb) (nm : ByteArray) : List ByteArray := if pB (RbOk x) = true then thE x.sl (slE x.ps nm) else []
noncomputable def rbOwn (x : Rb) : List ByteArray := if pB (RbOk x) = true then thE x.sl (ofL (phOf x.ps x.ad)) else []
theorem slE_nodup (ps : List Ph) (nm : ByteArray) : (keys (slE ps nm)).Nodup := by rw [slots_keys]; exact asc_nodup (slots_asc ps nm)
theorem SlotsOk.names {ps : List Ph} {l : List Sl} (h : SlotsOk ps l) : slNames l = slE ps (fstN ps) := SlP.names h.1 h.2.1
theorem SlotsOk.nodup {ps : List Ph} {l : List Sl} (h : SlotsOk ps l) : (keys (slNames l)).Nodup := by rw [h.names]; exact slE_nodup _ _
theorem SlotsOk.len {ps : List Ph} {l : List Sl} (h : SlotsOk ps l) : l.length ≤ 2 * ps.length := by
  have h1 := h.names
  have h2 := slE_len ps (fstN ps)
  have : l.length = (slNames l).length := by simp [slNames]
  rw [this, h1]; exact h2
theorem own_same (l : List Sl) (p : Ph) (hn : (keys (slNames l)).Nodup) {tt : List ByteArray} (ht : keys tt = ownK p) : keys (thE l (ofL p)) = thI l tt :=
  things_same hn fun x => by rw [(of_keys p).2, ht]
theorem thI_len (l : List Sl) (ss : List ByteArray) : (thI l ss).length ≤ ss.length := by
  obtain ⟨u1, u2⟩ := uniq_keys (keys (ss.map (lastT l)))
  have := len_sub (keys (ss.map (lastT l))) _ (asc_nodup u1) (fun x hx => (u2 x).1 hx)
  simpa [keys, thI] using this
theorem thE_len (l : List Sl) (ss : List ByteArray) : (thE l ss).length ≤ ss.length := by
  have := bothL_len [] (ss.map (firstT l))
  simpa [thE] using this
end Go.Proofs.YtkapodkidlgkjafGreatDoor
