/- The share's goroutines, 5: shareNoted, from its entry to its return, beside leavers. -/
import Derived.Test.YtafgabakhaipnaaSn4
import Derived.Test.YtafgabakhaipnaaJ34
namespace Go.Proofs.Ytafgabakhaipnaa
open Go.Conc Go.ConcN Go.RowKit Go.Conc.Lib Go.ConcR.Gen Go.ConcN.Gen
open Go.ConcR (KK wgBlock WgAt stA smA rd wr mk Payload DC0)

theorem AtW2.mono {p : Ph} {A A' F : Goroutine → World → Prop} (h : ∀ g w, A g w → A' g w) {v : Nat} {g : Goroutine} {w : World} (hh : AtW2 p A F v g w) : AtW2 p A' F v g w :=
  ⟨hh.1, fun u hu hw => ⟨(hh.2 u hu hw).1, fun e => let ⟨g', h1, m, h2⟩ := (hh.2 u hu hw).2 e; ⟨g', h1, m, goes_mono (fun _ _ r => r) (fun _ _ _ d => d) h h2⟩⟩⟩
theorem AtW1.mono {p : Ph} {A A' F : Goroutine → World → Prop} (h : ∀ g w, A g w → A' g w) {g : Goroutine} {w : World} (hh : AtW1 p A F g w) : AtW1 p A' F g w :=
  ⟨hh.1, fun u hu hw => let ⟨g', h1, h2, h3⟩ := hh.2 u hu hw; ⟨g', h1, h2, fun e => let ⟨m, h4⟩ := h3 e; ⟨m, goes_mono (fun _ _ r => r) (fun _ _ _ d => d) (fun _ _ x => AtW2.mono h x) h4⟩⟩⟩

/-- Behind Wait. -/
def StpN (p : Ph) (V : World) (_hB : Nat) (cs : List Frame) (s : Int) (g : Goroutine) (w : World) : Prop :=
  ∃ T : Array Value, g = G (bN.at ⟨T, []⟩ (.inRegion ops9N [] :: [.code R10N])) cs ∧ T.size = 17 ∧ T[5]? = some (.pointer (some ⟨p.S, 0, none⟩)) ∧ SK p V w ∧ WgLive p.ty p.Wg w ∧ SumAt p w s

section
variable {p : Ph} {V : World} {hB : Nat} {cs : List Frame}
theorem anN_run {g : Goroutine} {w : World} (h : AnN p V hB cs g w) : g.status = .running := by
  obtain ⟨T, _, _, _, U, rfl, _⟩ := h; rfl
theorem anN_round (hp : p.P = Try.prog) (o : p.Ok) (g : Goroutine) (w : World) (h : AnN p V hB cs g w) : ∃ m, Goes p.P true (R0 p Mt) DC0 (AtW1 p (AnN p V hB cs) (FinS p (StpN p V hB cs))) m g w := by
  obtain ⟨T, hT, t5, t3, hA⟩ := h
  have hT0 : ∀ s w, SK p V w → WgLive p.ty p.Wg w → SumAt p w s → Goes p.P true AtRel DC0 (StpN p V hB cs s) 0 (G (bN.at ((⟨T, []⟩ : Act).put ((ops9N[0]?).bind (·.dst)) (.tuple #[])) (.inRegion ops9N [] :: [.code R10N])) cs) w := fun s w h1 h3 h2 => Goes.stop fun w₁ r => by
    refine ⟨((⟨T, []⟩ : Act).put ((ops9N[0]?).bind (·.dst)) (.tuple #[])).tmps, ?_, ?_, ?_, SK.r0 (M := Mt) _ _ (at_r0 r) h1, (at_r0 (p := p) (M := Mt) r).rk.live h3, by obtain ⟨d, rfl⟩ := r; exact h2⟩
    · simp only [ops9N, RN, bodyN, Try.f38, Option.getD_some]; rfl
    · simp only [ops9N, RN, bodyN, Try.f38, Option.getD_some]; simp [Act.put, hT]
    · simp only [ops9N, RN, bodyN, Try.f38, Option.getD_some]; simp [Act.put, t5]
  obtain ⟨m, hm⟩ := waitS (L := lnk) (p := p) (F := SK p V) (Stp := StpN p V hB cs) (b₀ := bN) (a₀ := ⟨T, []⟩) (ops₀ := ops9N) (i₀ := 0) (rest₀ := []) (k₀ := [.code R10N]) (cs := cs) (mT := 0) (by rw [hp]; exact wgl) SK.r0 (fun w a v ha h => h.set o w a v ha) hT0 g w hA
  exact ⟨m, goes_mono (fun _ _ r => r) (fun _ _ _ d => d) (fun _ _ y => AtW1.mono (fun _ _ z => ⟨T, hT, t5, t3, z⟩) y) hm⟩

set_option maxRecDepth 100000 in
/-- Out of it: the sum is read, and returned. -/
theorem outN (_hp : p.P = Try.prog) {B0 : Nat} (hB0 : p.S < B0) {b₀ : Frame} {a₀ : Act} {ops₀ : Array Oper} {i₀ : Nat} {rest₀ : List Nat} {k₀ : List Item} {cs : List Frame} {s : Int} {g : Goroutine} {w : World} (h : StpN p V hB (b₀.at a₀ (.inRegion ops₀ (i₀ :: rest₀) :: k₀) :: cs) s g w) :
    Goes Try.prog true AtRel (DE (EvL p.Sh B0)) (fun g w => g = G (b₀.at (a₀.put ((ops₀[i₀]?).bind (·.dst)) (.int .u32 s)) (.inRegion ops₀ rest₀ :: k₀)) cs ∧ SK p V w ∧ WgLive p.ty p.Wg w ∧ SumAt p w s) 30 g w := by
  obtain ⟨T, rfl, hT, t5, hF⟩ := h
  have rl : ∀ {w w₁ : World}, (SK p V w ∧ WgLive p.ty p.Wg w ∧ SumAt p w s) → AtRel w w₁ → SK p V w₁ ∧ WgLive p.ty p.Wg w₁ ∧ SumAt p w₁ s := fun h r => ⟨SK.r0 (M := Mt) _ _ (at_r0 r) h.1, (at_r0 (p := p) (M := Mt) r).rk.live h.2.1, by obtain ⟨d, rfl⟩ := r; exact h.2.2⟩
  obtain ⟨v0, v1, v2, v3, v4, v5, v6, v7, v8, v9, v10, v11, v12, v13, v14, v15, v16, rfl⟩ := array17 T hT
  simp only [List.getElem?_toArray, List.getElem?_cons_succ, List.getElem?_cons_zero, Option.some.injEq] at t5
  subst t5
  simp only [ops9N, R10N, RN, bodyN, Try.f38, Option.getD_some]
  u_c stepG_region_end rl hF
  u_c stepG_seq rl hF
  u_reg rl hF
  u_call Try.func50 (by kernel_rfl) Try.f50 rl hF
  u_c stepG_seq rl hF
  u_reg rl hF
  u_op rl hF
  u_c stepG_region_end rl hF
  u_c stepG_seq rl hF
  u_reg rl hF
  u_op rl hF
  u_op rl hF
  u_op rl hF
  u_in rl hF
  rw [stepG_load_atomic (v := s) rfl rfl (by k_ne) rfl Try.func73 (by kernel_rfl) (by kernel_rfl) (by kernel_rfl) .u32 (by kernel_rfl) (ad := ⟨p.S, 0, none⟩) rfl (by have := hF.2.2; unfold SumAt at this; simp [World.cell?, this])]
  simp only [goes_go]
  refine ⟨fun e he => ?_, ?_⟩
  · simp only [Array.mem_singleton] at he
    subst he
    refine ⟨fun x hx _ => ?_, by simp, by simp, hB0⟩
    simp only [ofEvent_cell0, MemAct.touch?, Option.some.injEq] at hx
    subst hx
    simp
  walk_nrm
  u_op rl hF
  u_c stepG_region_end rl hF
  u_c stepG_ret' rl hF
  u_leave1 Try.func50 rl hF
  u_op rl hF
  u_c stepG_region_end rl hF
  u_c stepG_ret' rl hF
  u_leave1 Try.func38 rl hF
  exact Goes.stop fun w₁ r => ⟨rfl, rl hF r⟩
end
end Go.Proofs.Ytafgabakhaipnaa
