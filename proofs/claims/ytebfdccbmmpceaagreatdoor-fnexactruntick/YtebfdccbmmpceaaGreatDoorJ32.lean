/- The program's chapter 13: what is done where somebody asks. -/
import Derived.Test.YtebfdccbmmpceaaGreatDoorJ31
import Derived.Test.YtebfdccbmmpceaaGreatDoorJ2
import Derived.Test.YtebfdccbmmpceaaGreatDoorJ0
import Derived.Test.YtebfdccbmmpceaaGreatDoorJ25
import Derived.Deep.RegionHeld
set_option maxRecDepth 100000
set_option maxHeartbeats 8000000
namespace Go.Proofs.YtebfdccbmmpceaaGreatDoor
open Go.RowKit
theorem o3_up {W w0 w1:World} {q r i j k:Nat} {x0 x1 x2:Value} (hq:q<W.heap.size) (hr:r<W.heap.size) (h:Below W.heap.size W w0/\w0.cell? ⟨q,i,none⟩=some x0/\w0.cell? ⟨q,j,none⟩=some x1/\w0.cell? ⟨r,k,none⟩=some x2) (hB:Below w0.heap.size w0 w1):Below W.heap.size W w1/\w1.cell? ⟨q,i,none⟩=some x0/\w1.cell? ⟨q,j,none⟩=some x1/\w1.cell? ⟨r,k,none⟩=some x2:=by
 have lq:q<w0.heap.size:=A1 hq h.1.size;have lr:r<w0.heap.size:=A1 hr h.1.size;exact⟨D6 h.1 hB,(hB.cell (p:=⟨q,i,none⟩) lq).trans h.2.1,(hB.cell (p:=⟨q,j,none⟩) lq).trans h.2.2.1,(hB.cell (p:=⟨r,k,none⟩) lr).trans h.2.2.2⟩
theorem Ahb (f g:Value×List ByteArray):catL [f,g] [f,g].length=f.2++g.2:=by simp[catL]
theorem AjV (ss has things:List ByteArray) (v hv tv:Value) (sb:Nat) (w:World) (h:Ls w v ss) (hs:ss.length<=100) (hc:w.cell? ⟨sb,0,none⟩=some hv) (hc2:w.cell? ⟨sb,1,none⟩=some tv) (hl:Ls w hv has) (hl2:Ls w tv things) (hsb:sb<w.heap.size) (hn:has.length+things.length<=900) :
  Calls Tryz.prog 207 #[v,.slice (some ⟨sb,0,none⟩) 2 2] w λe w'=>(∃u,e=.returned u/\OwnT w' w.heap.size u (ss.filter (memS (has++things))))/\Below w.heap.size w w':=by
 have:=Afz ss v [(hv,has),(tv,things)] sb w h hs (λi f hf=>by
  match i,hf with
  | 0,hf =>
   obtain rfl:(hv,has)=f:=by simpa using hf
   exact⟨hc,hl⟩
  | 1,hf =>
   obtain rfl:(tv,things)=f:=by simpa using hf
   exact⟨hc2,hl2⟩) hsb (by simp) (by rw[Ahb,A9];exact hn)
 rw[Ahb] at this;exact this
theorem AdA (b:Bk) (v:Value) (nm:ByteArray) (lv:Value) (ls:List ByteArray) (w:World) (h:BkV w v b) (hl:Ls w lv ls) (hls:ls.length<=100) (hok:BookOk b) (hpt:PartOk ls (needsAt b nm)) (hm:memS (nms b.bs) nm=true) :
  Calls Tryz.prog 184 #[v,.iface 203 (.agg #[.string nm,lv])] w λe w'=>(∃u,e=.returned u/\BkF w' w.heap.size u (chg b (plN b nm) (askF ls)))/\Below w.heap.size w w':=by
 have f1:=AiA;have f2:=ta_AE;have f3:=ta_AA;obtain⟨a1,c1,a2,c2,rfl,-,-⟩:=h.parts;obtain⟨la,lc,rfl,-,hzl,-⟩:=id hl;have hszb:=h.szb;obtain⟨s1,s2,s3⟩:=O0 hok;obtain⟨W1,hW1,kA,kR,hB1,hs1⟩:=L1 w [.slice a1 (b).things.length c1,.slice a2 (b).bs.length c2] 33 [.slice none 0 0,.slice none 0 0] 33;go_enter Tryz.func184,Tryz.ntmps184
 go_upto_region 1 with fail
 try rw[hW1]
 clear hW1;have hk:=h.up hB1;obtain⟨e0,e1⟩:=kA.c2';go_wp2_with fail
 refine (Z1 b _ _ hk (by omega) (by omega) (λy hy=>by have:=s3 y hy;omega)).mono ?_;rintro e w2 ⟨⟨a3,c3,a4,c4,ps,rfl,x2,x3,hF⟩,hb2⟩;have hz2:=hb2.size;have hlt2:∀g',(Value.slice a4 b.bs.length c4).ownBlock=some g'->g'<w2.heap.size:=λg' hg'=>(x2.1.lt g' hg').2;replace hF:=hF.avoid (A3 _);have Hnm:Hid (∀p∈ps,p.1.nm.size<=maxLen):=λp hp=>(x2.2 p hp).2.2;have kA2:=kA.up hb2 (by omega);have kR2:=kR.up hb2 (by omega);have hk2:=hk.up hb2;have hB2:=D6 hB1 hb2;clear e0 e1 kA kR hk hB1 hb2;go_upto_region 2 with fail
 obtain⟨W3,hW3,kX,hb3,hs3⟩:=K9 w2 [(.slice a3 b.things.length c3),.slice a4 b.bs.length c4] 33;try rw[hW3]
 clear hW3;have kA3:=kA2.up hb3 (by omega);have kR3:=kR2.up hb3 (by omega);have hk3:=hk2.up hb3;have hB3:=D6 hB2 hb3;have x23:=x2.up hb3;have hF3:=hF.up hb3;clear kA2 kR2 hk2 hB2 x2 hF hb3;obtain⟨e0,e1⟩:=kA3.c2';have hS0:Below W3.heap.size W3 W3/\W3.cell? ⟨w.heap.size,0,none⟩=some (.slice a1 b.things.length c1)/\W3.cell? ⟨w.heap.size,1,none⟩=some (.slice a2 b.bs.length c2):=⟨A4 _ _,e0,e1⟩;have hq3:w.heap.size<W3.heap.size:=by omega
 clear e0 e1;go_wp2_with fail
 go_region_held (λw'=>Below W3.heap.size W3 w'/\w'.cell? ⟨w.heap.size,0,none⟩=some (.slice a1 b.things.length c1)/\w'.cell? ⟨w.heap.size,1,none⟩=some (.slice a2 b.bs.length c2)) (first|exact AeT hS0|exact Ajh hq3 (by assumption) (by assumption))
  (first
   | (go_at_call 269;refine (AaA nm _).mono ?_;rintro e' w9 ⟨rfl,hb9⟩)
   | (go_at_call 180;refine (Abe b _ nm _ ((hk3.up (A4 _ _).drew).up hb9) hok).mono ?_;rintro e' wA ⟨rfl,hbA⟩))
 rename_i hHeld;have hBA:=hHeld.1;clear hHeld hS0 hb9 hbA;have hzA:=hBA.size;have kXA:=kX.up hBA (by omega);have kRA:=kR3.up hBA (by omega);have hBB:=D6 hB3 hBA;have x2A:=x23.up hBA;have hFA:=hF3.up hBA;clear kX kR3 kA3 hB3 x23 hF3 hk3 hBA;rw[Aew hok.2.2.2.1 hm];obtain⟨-,hpl⟩:=T8 hm;have hps:ps.length=b.bs.length:=by rw[← x3,B4]
 have hrow:=x2A.1;rw[hps] at hrow;obtain⟨g,cp,hgp⟩:=F4 hrow (by omega);obtain⟨rfl,-,rfl⟩:=Value.slice.inj hgp;clear hgp
 have hpk:∃hv nv,ps[plN b nm]?=some (b.bs[plN b nm],hv,nv):=by
  have h1:(ps.map (·.1))[plN b nm]?=some b.bs[plN b nm]:=by rw[x3,A0 hpl]
  rw[B0] at h1;obtain⟨p,hp,e⟩:=B5.1 h1;exact⟨p.2.1,p.2.2,by rw[hp,← e]⟩
 obtain⟨hv,nv,hpk⟩:=hpk;have Hchg:Hid (chg b (plN b nm) (askF ls)=⟨b.things,b.bs.set (plN b nm) (askF ls b.bs[plN b nm])⟩):=Abb (A0 hpl);have hbok:=hok.2.2.2.2.1.at (k:=plN b nm) hpl hpl;rw[V7 (A0 hpl)] at hpt;obtain⟨s4,s5⟩:=s3 b.bs[plN b nm] (by simp);have hzx:=hszb.2 b.bs[plN b nm] (by simp);have Hflt:Hid ((b.bs[plN b nm]).needs.filter (memS ((b.bs[plN b nm]).has++ls))=insAll (b.bs[plN b nm]).has ls):=AmV hbok.1.2 hbok.2 hpt;have Hm3:Hid (∀(u1 u2:Value),(ps.set (plN b nm) ((askF ls b.bs[plN b nm],u1,u2):Bv)).map (·.1)=b.bs.set (plN b nm) (askF ls b.bs[plN b nm])):=λu1 u2=>by rw[List.map_set,x3]
 clear hbok hpt;generalize hp0:plN b nm=p at *;have Hp0:Hid (plN b nm=p):=hp0;clear hp0;generalize b.bs[p]=x0 at *;go_upto_region 10 with fail
 obtain⟨W7,hW7,kZ7,hb5,hs7⟩:=K9 wA [.string nm,.slice la ls.length lc] 203;try rw[hW7]
 clear hW7;have Hz7:Hid (W7.heap.size=wA.heap.size+1):=hs7;have kX7:=kXA.up hb5 (by omega);have kR7:=kRA.up hb5 (by omega);have hB7:=D6 hBB hb5;have hF7:=hFA.up hb5;have hg2:=hlt2 g rfl;have hg1:=(hrow.lt g rfl).1;have hrow7:=E1 hrow hb5;have hl7:=hl.up hB7;have hG7:=hF7.front hpk;have hoh7:OwnT W7 W1.heap.size hv x0.has:=hG7.own _ List.mem_cons_self;have hon7:OwnT W7 W1.heap.size nv x0.needs:=hG7.own _ (C8 _ List.mem_cons_self);obtain⟨ah,ch,hhv⟩:=hoh7.lst.shape;subst hhv;obtain⟨an,cn,hnv⟩:=hon7.lst.shape;subst hnv;have hlh7:=hoh7.lst.ls hzx.1;have hln7:=hon7.lst.ls hzx.2;clear kXA kRA hBB x2A hFA hb5 hrow hlt2 h hl hoh7 hon7 hF7 hs7;obtain⟨⟨y0,y1⟩,-⟩:=kX7.c2;go_upto_region 11 with fail
 clear y0 y1;have d1:=hrow7.cellAt (p*3+1) (by omega);rw[K5 _ p _ hpk 1 _ rfl] at d1;have d2:=hrow7.cellAt (p*3+2) (by omega);rw[K5 _ p _ hpk 2 _ rfl] at d2;have d3:W7.cell? ⟨wA.heap.size,1,none⟩=some (.slice la ls.length lc):=kZ7.1 1 _ rfl;have hg7:g<W7.heap.size:=by have:=Hz7.out;omega
 have hq7:wA.heap.size<W7.heap.size:=by have:=Hz7.out;omega
 have hw7:w2.heap.size+1<W7.heap.size:=by have:=Hz7.out;omega
 have hS1:Below W7.heap.size W7 W7.drew/\World.cell? W7.drew ⟨g,p*3+1,none⟩=some (.slice ah x0.has.length ch)/\World.cell? W7.drew ⟨g,p*3+2,none⟩=some (.slice an x0.needs.length cn)/\World.cell? W7.drew ⟨wA.heap.size,1,none⟩=some (.slice la ls.length lc):=⟨(A4 _ _).drew,d1,d2,d3⟩;have hb8:Below W7.drew.heap.size W7.drew (W7.alloc (.cells #[.slice ah x0.has.length ch,.slice la ls.length lc] 22)).drew:=(A4 W7.drew.heap.size W7.drew).alloc (A3 _) (.cells #[.slice ah x0.has.length ch,.slice la ls.length lc] 22);have hS8:Below W7.heap.size W7 (W7.alloc (.cells #[.slice ah x0.has.length ch,.slice la ls.length lc] 22)).drew/\World.cell? (W7.alloc (.cells #[.slice ah x0.has.length ch,.slice la ls.length lc] 22)).drew ⟨g,p*3+1,none⟩=some (.slice ah x0.has.length ch)/\World.cell? (W7.alloc (.cells #[.slice ah x0.has.length ch,.slice la ls.length lc] 22)).drew ⟨g,p*3+2,none⟩=some (.slice an x0.needs.length cn)/\World.cell? (W7.alloc (.cells #[.slice ah x0.has.length ch,.slice la ls.length lc] 22)).drew ⟨wA.heap.size,1,none⟩=some (.slice la ls.length lc):=o3_up hg7 hq7 hS1 hb8;clear d1 d2 d3 kZ7;go_wp2_with fail
 refine F5 15 (λw'=>Below W7.heap.size W7 w'/\World.cell? w' ⟨g,p*3+1,none⟩=some (.slice ah x0.has.length ch)/\World.cell? w' ⟨g,p*3+2,none⟩=some (.slice an x0.needs.length cn)/\World.cell? w' ⟨wA.heap.size,1,none⟩=some (.slice la ls.length lc)) (by kernel_rfl) ?_;refine G3 (i:=0) (v:=?_) rfl (by kernel_rfl) (by kernel_rfl) (by kernel_rfl) (by kernel_rfl) (λ_ _ _ h=>h) (by rfl) hS1 ?_ ?_;rotate_left;focus (intro w hSw;(try dsimp only at hSw);go_simp;try with_reducible rfl);(try simp only[Act.put,List.setIfInBounds_toArray,List.set_cons_zero,List.set_cons_succ])
 refine G3 (i:=1) (v:=?_) rfl (by kernel_rfl) (by kernel_rfl) (by kernel_rfl) (by kernel_rfl) (λ_ _ _ h=>h) (by rfl) hS1 ?_ ?_;rotate_left;focus (intro w hSw;(try dsimp only at hSw);go_simp;try with_reducible rfl);(try simp only[Act.put,List.setIfInBounds_toArray,List.set_cons_zero,List.set_cons_succ])
 refine G3 (i:=2) (v:=?_) rfl (by kernel_rfl) (by kernel_rfl) (by kernel_rfl) (by kernel_rfl) (λ_ _ _ h=>h) (by rfl) hS1 ?_ ?_;rotate_left;focus (intro w hSw;(try dsimp only at hSw);go_simp;try with_reducible rfl);(try simp only[Act.put,List.setIfInBounds_toArray,List.set_cons_zero,List.set_cons_succ])
 refine G3 (i:=3) (v:=?_) rfl (by kernel_rfl) (by kernel_rfl) (by kernel_rfl) (by kernel_rfl) (λ_ _ _ h=>h) (by rfl) hS1 ?_ ?_;rotate_left;focus (intro w hSw;(try dsimp only at hSw);go_simp;try with_reducible rfl);(try simp only[Act.put,List.setIfInBounds_toArray,List.set_cons_zero,List.set_cons_succ])
 refine G3 (i:=4) (v:=?_) rfl (by kernel_rfl) (by kernel_rfl) (by kernel_rfl) (by kernel_rfl) (λ_ _ _ h=>h) (by rfl) hS1 ?_ ?_;rotate_left;focus (intro w hSw;(try dsimp only at hSw);go_simp;try with_reducible rfl);(try simp only[Act.put,List.setIfInBounds_toArray,List.set_cons_zero,List.set_cons_succ])
 refine G3 (i:=5) (v:=?_) rfl (by kernel_rfl) (by kernel_rfl) (by kernel_rfl) (by kernel_rfl) (λ_ _ _ h=>h) (by rfl) hS1 ?_ ?_;rotate_left;focus (intro w hSw;(try dsimp only at hSw);go_simp;try with_reducible rfl);(try simp only[Act.put,List.setIfInBounds_toArray,List.set_cons_zero,List.set_cons_succ])
 refine G3 (i:=6) (v:=?_) rfl (by kernel_rfl) (by kernel_rfl) (by kernel_rfl) (by kernel_rfl) (λ_ _ _ h=>h) (by rfl) hS1 ?_ ?_;rotate_left;focus (intro w hSw;(try dsimp only at hSw);go_simp;try with_reducible rfl);(try simp only[Act.put,List.setIfInBounds_toArray,List.set_cons_zero,List.set_cons_succ])
 refine G3 (i:=7) (v:=?_) rfl (by kernel_rfl) (by kernel_rfl) (by kernel_rfl) (by kernel_rfl) (λ_ _ _ h=>h) (by rfl) hS1 ?_ ?_;rotate_left;focus (intro w hSw;(try dsimp only at hSw);go_simp;try with_reducible rfl);(try simp only[Act.put,List.setIfInBounds_toArray,List.set_cons_zero,List.set_cons_succ])
 refine G3 (i:=8) (v:=?_) rfl (by kernel_rfl) (by kernel_rfl) (by kernel_rfl) (by kernel_rfl) (λ_ _ _ h=>h) (by rfl) hS1 ?_ ?_;rotate_left;focus (intro w hSw;(try dsimp only at hSw);go_simp;try with_reducible rfl);(try simp only[Act.put,List.setIfInBounds_toArray,List.set_cons_zero,List.set_cons_succ])
 refine G3 (i:=9) (v:=?_) rfl (by kernel_rfl) (by kernel_rfl) (by kernel_rfl) (by kernel_rfl) (λ_ _ _ h=>h) (by rfl) hS1 ?_ ?_;rotate_left;focus (intro w hSw;(try dsimp only at hSw);go_simp;try with_reducible rfl);(try simp only[Act.put,List.setIfInBounds_toArray,List.set_cons_zero,List.set_cons_succ])
 refine G3 (i:=10) (v:=?_) rfl (by kernel_rfl) (by kernel_rfl) (by kernel_rfl) (by kernel_rfl) (λ_ _ _ h=>h) (by rfl) hS1 ?_ ?_;rotate_left;focus (intro w hSw;(try dsimp only at hSw);go_simp;try with_reducible rfl);(try simp only[Act.put,List.setIfInBounds_toArray,List.set_cons_zero,List.set_cons_succ])
 refine D8 (i:=11) (by kernel_rfl) rfl (λK hK=>?_);go_simp
 refine hK.out _ _ (λ_=>hS8) ?_;clear hK K;(try simp only[Act.put,List.setIfInBounds_toArray,List.set_cons_zero,List.set_cons_succ]);have hn8:Below W7.heap.size W7 (W7.alloc (.cells #[.slice ah x0.has.length ch,.slice la ls.length lc] 22)).drew:=hS8.1;have hcell8:(W7.alloc (.cells #[.slice ah x0.has.length ch,.slice la ls.length lc] 22)).drew.cell? ⟨W7.heap.size,0,none⟩=some (.slice ah x0.has.length ch):=(E7 W7 [.slice ah x0.has.length ch,.slice la ls.length lc] 22).1 0 _ rfl;have hcell9:(W7.alloc (.cells #[.slice ah x0.has.length ch,.slice la ls.length lc] 22)).drew.cell? ⟨W7.heap.size,1,none⟩=some (.slice la ls.length lc):=(E7 W7 [.slice ah x0.has.length ch,.slice la ls.length lc] 22).1 1 _ rfl;have hlh8:=hlh7.up hn8;have hln8:=hln7.up hn8;have hll8:=hl7.up hn8;have Hz8:Hid ((W7.alloc (.cells #[.slice ah x0.has.length ch,.slice la ls.length lc] 22)).drew.heap.size=W7.heap.size+1):=by show _=_;simp
 generalize (W7.alloc (.cells #[.slice ah x0.has.length ch,.slice la ls.length lc] 22)).drew=W8 at *;have hl8:W7.heap.size<W8.heap.size:=by have:=Hz8.out;omega
 refine D8 (i:=12) (by kernel_rfl) rfl (λK hK=>?_);go_simp
 go_wp2_with (go_at_call 207;refine (AjV x0.needs x0.has ls _ _ _ W7.heap.size _ hln8 (by omega) hcell8 hcell9 hlh8 hll8 hl8 (by omega)).mono ?_;rintro e w9 ⟨⟨uh,rfl,hoh⟩,hb9⟩)
 obtain⟨xh,yh,hxh⟩:=hoh.lst.shape;rw[Hflt.out] at hxh hoh;subst hxh;have hS9:Below W7.heap.size W7 w9/\World.cell? w9 ⟨g,p*3+1,none⟩=some (.slice ah x0.has.length ch)/\World.cell? w9 ⟨g,p*3+2,none⟩=some (.slice an x0.needs.length cn)/\World.cell? w9 ⟨wA.heap.size,1,none⟩=some (.slice la ls.length lc):=o3_up hg7 hq7 hS8 hb9;refine hK.out _ _ (λ_=>hS9) ?_;clear hK K;(try simp only[Act.put,List.setIfInBounds_toArray,List.set_cons_zero,List.set_cons_succ]);refine D8 (i:=13) (by kernel_rfl) rfl (λK hK=>?_);go_simp
 refine hK.out _ _ (λ_=>hS9) ?_;clear hK K;(try simp only[Act.put,List.setIfInBounds_toArray,List.set_cons_zero,List.set_cons_succ]);refine G3 (i:=14) (v:=?_) rfl (by kernel_rfl) (by kernel_rfl) (by kernel_rfl) (by kernel_rfl) (λ_ _ _ h=>h) (by rfl) hS9 ?_ ?_;rotate_left;focus (intro w hSw;(try dsimp only at hSw);go_simp;try with_reducible rfl);(try simp only[Act.put,List.setIfInBounds_toArray,List.set_cons_zero,List.set_cons_succ])
 have hz9:=hb9.size;have hB79:=hS9.1;have kX9:=kX7.up hB79 (by omega);have kR9:=kR7.up hB79 (by omega);have hB9:=D6 hB7 hB79;have hrow9:=E1 hrow7 hB79;have hG9:=hG7.up hB79;have hH9:=Fam.new hG7.tail hG9.tail hoh (by omega) (by omega) (AaI (by omega));have d1:=hS9.2.1;have q1:=hrow9.frozenAt (p*3+1);have st:=hrow9.stored (p*3+1) (.slice xh (insAll x0.has ls).length yh);have hrow10:=st.1;rw[Aeh _ p _ (askF ls x0) (.slice xh (insAll x0.has ls).length yh) hpk rfl] at hrow10;have hH10:=hH9.row hrow9 st.2;have kX10:=kX9.kept st.2 (by simp;omega);have kR10:=kR9.kept st.2 (by simp;omega);have hB10:Below w.heap.size w (w9.setCell ⟨g,p*3+1,none⟩ (.slice xh (insAll x0.has ls).length yh)):=I3 hB9 hrow9 st.2 (by omega);clear hS1 hS8 kX7 kR7 hB7 hrow7 hG7 hlh7 hln7 hb8 hn8 hcell8 hcell9 hlh8 hln8 hll8 hl7 hoh hb9 hB79 kX9 kR9 hB9 hrow9 hG9 hH9 st;refine D8 (i:=15) (by kernel_rfl) rfl (λK hK=>?_);go_simp
 refine hK.out _ _ (λh=>absurd rfl h) ?_;clear hK K;refine F0 (by kernel_rfl) ?_ _;clear d1 q1 hS9;have Hlf:Hid (askF ls x0=⟨x0.nm,insAll x0.has ls,x0.needs⟩):=rfl;generalize insAll x0.has ls=fl at *;generalize w9.setCell ⟨g,p*3+1,none⟩ (.slice xh fl.length yh)=W10 at *;obtain⟨⟨y0,y1⟩,-⟩:=kX10.c2;obtain⟨⟨r0,r1⟩,q0,q1⟩:=kR10.c2;have hW1z:w.heap.size+1<W1.heap.size:=by omega
 have hF10:Fam W10 W1.heap.size (some w2.heap.size) (((.slice a3 b.things.length c3),b.things)::famB (ps.set p ((askF ls x0,.slice xh fl.length yh,.slice an x0.needs.length cn):Bv))):=by
  refine Fam.back ?_ (by omega);rw[Hlf.out];exact hH10
 clear hH10;go_wp2_with fail
 refine AaW Tryz.results184 Tryz.underlying33 rfl J0 kR10 rfl ?_;have hrow8:=E9 (E9 hrow10 (E0 (rb:=w.heap.size+1) (off:=0) (E4 _ _) (.slice a3 b.things.length c3)) hW1z) (E0 (rb:=w.heap.size+1) (off:=1) (E4 _ _) (.slice (some ⟨g,0,none⟩) b.bs.length c4)) hW1z;have hF8:=(hF10.free.setLow hW1z 0 (.slice a3 b.things.length c3)).setLow hW1z 1 (.slice (some ⟨g,0,none⟩) b.bs.length c4)
 have hW8:=hF8.bsW (fs:=[((.slice a3 b.things.length c3),b.things)]) (v:=.slice (some ⟨g,0,none⟩) b.bs.length c4) (by rw[List.length_set,hps];exact hrow8) (λq hq=>by
  rcases List.mem_or_eq_of_mem_set hq with h|h
  ·exact Hnm.out q h
  ·subst h
   exact Hnm.out ((x0,.slice ah x0.has.length ch,.slice an x0.needs.length cn):Bv) (A6 hpk))
 have hm3:=Hm3.out (.slice xh fl.length yh) (.slice an x0.needs.length cn);have hchg:=Hchg.out;rw[← Hp0.out] at hchg;rw[hchg];refine⟨⟨_,rfl,a3,c3,some ⟨g,0,none⟩,c4,_,?_,?_,by rw[Hp0.out];exact hm3,hF8.low (by omega)⟩,F9 hB10 (Nat.le_succ _) _ _⟩
 ·show Value.agg #[_,_]=Value.agg #[_,.slice _ (b.bs.set _ _).length _]
  rw[List.length_set]
 ·show BsW _ _ (.slice _ (b.bs.set _ _).length _) _
  rw[List.length_set];exact hW8.low (by omega)
end Go.Proofs.YtebfdccbmmpceaaGreatDoor
namespace Go.Proofs.YtebfdccbmmpceaaGreatDoor
open Go.RowKit Go.Maps
theorem Aei {a b:ByteArray} (h:a=b):Ending.returned (.string a)=.returned (.string b):=by rw[h]
theorem Aoi (b:Bk) (v:Value) (s:ByteArray) (w:World) (h:BkV w v b) (hs:s.size<=maxLen) :
  Calls Tryz.prog 272 #[v,.string s] w λe w'=>e=.returned (.string (whoS b s))/\Below w.heap.size w w':=by
 obtain⟨a1,c1,a2,c2,rfl,h1,h2⟩:=h.parts;have hC:CB (w.alloc (.cells #[.slice a1 (b).things.length c1,.slice a2 (b).bs.length c2] 33)) w.heap.size [.slice a1 b.things.length c1,.slice a2 b.bs.length c2]:=E7 w _ _;have hB0:=(A4 w.heap.size w).alloc (A3 _) (.cells #[.slice a1 (b).things.length c1,.slice a2 (b).bs.length c2] 33);go_enter Tryz.func272,Tryz.ntmps272
 go_upto_region 1 with fail
 generalize w.alloc (.cells #[.slice a1 (b).things.length c1,.slice a2 (b).bs.length c2] 33)=W1 at *;have l2:=h2.up hB0;have hk:=h.up hB0;clear h h1 h2;obtain⟨e0,e1⟩:=hC.c2';have hlt:=hC.2.2;go_wp2_with fail
 refine (Acf b _ _ hk).mono ?_;rintro e w2 ⟨rfl,hB2⟩;cases hq:bookB b
 ·have Hq:Hid (whoS b s=⟨#[]⟩):=by show _=_;rw[whoS,hq];rfl
  go_wp2_with fail
  go_ret
  exact⟨Aei Hq.out.symm,D6 hB0 hB2⟩
 have Hq:Hid (whoS b s=whoB b.bs s):=by show _=_;rw[whoS,if_pos hq]
 have hok:BookOk b:=F8.1 hq;have h8:=Ai3 hok.1.1 hok.2.2.2.2.1;have h5:=hok.2.1;have hA:=hok.2.2.2.2.2;clear hok hq;have f1:=(hB2.cell (p:=⟨w.heap.size,1,none⟩) hlt).trans e1;go_wp2_with fail
 refine (Ad4 b.bs _ _ (l2.up hB2) h5 h8).mono ?_;rintro e w3 ⟨hh,hb3⟩;have hB3:=D6 hB2 hb3;rcases hh with⟨-,M,n,D,rfl,hmap,hD,-⟩|⟨hN,-⟩
 case inr=>exact absurd hA hN
 clear f1 hb3 hB2;have hkey:keyOf Tryz.prog 9 (.string s)=some (kl s):=WideMaps.keyOf_string_mk Tryz.underlying9 hs;have f1:=(hB3.cell (p:=⟨w.heap.size,1,none⟩) hlt).trans e1;cases ht:Maps.has D (kl s)
 ·have Hm:Hid (whoS b s=⟨#[]⟩):=by show _=_;rw[Hq.out];exact hD.whoNone (by omega) ht
  go_wp2_with (at_lookup;refine wpList_lookup_own_ok_int _ rfl _ _ 285 rfl 9 3 .i64 AcQ Tryz.underlying285 Tryz.underlying3 (Adw _) M n D rfl hmap _ _ rfl hkey ?_;intro cc _ _)
  go_ret
  exact⟨Aei Hm.out.symm,D6 hB0 hB3⟩
 ·obtain⟨i,hi,hz,hw⟩:=hD.who ht
  have Hm:Hid (whoS b s=(b.bs[i]).nm):=by show _=_;rw[Hq.out];exact hw
  have Hz:Hid (∀cc:Int,D.atKey (kl s) (.lit (.int .i64 0))=.lit (.int .i64 cc)->cc=(i:Int)):=λcc h=>by
   rw[hz] at h;simpa using h.symm
  obtain⟨-,hpos⟩:=l2.at;obtain⟨bb,o,rfl,hS,hb⟩:=hpos (by omega);obtain⟨a3,d3,a4,d4,c3,c4,c5,-,-,-⟩:=((hS.at hi).up hB3 hb).cells;generalize b.bs[i]=x0 at *;clear hS hz hw hD Hq;go_wp2_with (at_lookup;refine wpList_lookup_own_ok_int _ rfl _ _ 285 rfl 9 3 .i64 AcQ Tryz.underlying285 Tryz.underlying3 (Adw _) M n D rfl hmap _ _ rfl hkey ?_;intro cc hcc _;obtain rfl:=Hz.out cc hcc;clear hcc)
  go_ret
  exact⟨Aei Hm.out.symm,D6 hB0 hB3⟩
end Go.Proofs.YtebfdccbmmpceaaGreatDoor
namespace Go.Proofs.YtebfdccbmmpceaaGreatDoor
open Go.RowKit
def Marked (ys:List ByteArray) (m:Int) (k:Nat):Prop:=∀i:Nat,i<k->ys[i]?=some (mkB (m+i))
theorem Marked.set {ys:List ByteArray} {m:Int} {k:Nat} (h:Marked ys m k) (hk:k<ys.length):Marked (ys.set k (mkB (m+k))) m (k+1):=λi hi=>by
 rw[List.getElem?_set];by_cases e:k=i
 ·subst e;rw[if_pos rfl,if_pos hk]
 ·rw[if_neg e];exact h i (by omega)
theorem Adn (ss:List ByteArray) (base:Nat) (u:Value) (m:Int) (w:World) (h:OwnT w base u ss) (hn:ss.length<=1000) (hm:1<=m) (hm9:m<=1000000) :
  Calls Tryz.prog 63 #[u,.int .i64 m] w λe w'=>e=.returned (.int .i64 (m+ss.length))/\(∃ys,ys.length=ss.length/\Marked ys m ss.length/\OwnT w' base u ys)/\w.grownBy w' u.ownBlock:=by
 by_cases h0:ss=[]
 ·subst h0
  obtain⟨a1,c1,rfl⟩:=h.lst.shape;simp only[List.length_nil];have HO:Hid (OwnT w base (.slice a1 0 c1) []):=h;clear h;go_enter Tryz.func63,Tryz.ntmps63
  go_wp2
  go_rounds 1
  go_ret
  exact⟨by simp,⟨[],rfl,λi hi=>by omega,HO.out⟩,E4 _ _⟩
 have hpos:0<ss.length:=by
  rcases C4 ss.length with h1|h1
  ·exact absurd (C5.1 h1) h0
  ·exact h1
 obtain⟨g,cap,rfl⟩:=F4 h hpos;go_enter Tryz.func63,Tryz.ntmps63
 go_wp2
 go_loopw [1,5] (λkk i w'=>∃(k:Nat) (ys:List ByteArray),k<=ss.length/\i=.int .i64 k/\kk=.int .i64 (m+k)/\ys.length=ss.length/\Marked ys m k/\w'.ownsRow base 9 1 (.slice (some ⟨g,0,none⟩) ss.length cap) ss.length (ys.map Value.string)/\w.grownBy w' (some g)) (λ_ i _=>ss.length-(intOf i).toNat)
 case atStart=>exact⟨0,ss,by omega,rfl,by simp,rfl,λi hi=>by omega,h,E4 _ _⟩
 case round =>
  obtain⟨k,ys,hk,rfl,rfl,hyl,hM,hown,hG⟩:=hrel;by_cases hp:k<ss.length
  ·go_wp2_with fail
   refine (F7 (m+k) wr (by omega)).mono ?_;rintro e w1 ⟨rfl,hB1⟩;have hown1:=E1 hown hB1;have hG1:=E3 hG (L3 (r:=some g) hB1);have c0:=hown1.cellAt k (by omega);rw[B0,A0 (by omega)] at c0;have f0:=hown1.frozenAt k;have hst:=hown1.stored k (.string (mkB (m+k)));have hM':=hM.set (by omega)
   have Hst:Hid ((w1.setCell ⟨g,k,none⟩ (.string (mkB (m+k)))).ownsRow base 9 1 (.slice (some ⟨g,0,none⟩) ss.length cap) ss.length ((ys.set k (mkB (m+k))).map Value.string)/\w.grownBy (w1.setCell ⟨g,k,none⟩ (.string (mkB (m+k)))) (some g)):=by
    refine⟨?_,E3 hG1 hst.2⟩;rw[List.map_set];exact hst.1
   have HM:Hid (Marked (ys.set k (mkB (m+k))) m (k+1)):=hM';have hyl':(ys.set k (mkB (m+k))).length=ss.length:=by rw[List.length_set];exact hyl
   have Hyl:Hid ((ys.set k (mkB (m+k))).length=ss.length):=hyl';clear hown hB1 hG hown1 hG1 hst hM' hM hyl';simp only[Option.map_some] at c0;generalize mkB (m+k)=mb at *;go_wp2_with fail
   go_roundw
   case rel=>exact⟨k+1,ys.set k mb,by omega,by go_num,by go_num,Hyl.out,HM.out,Hst.out.1,Hst.out.2⟩
   case measure=>simp[intOf];omega
  ·obtain rfl:k=ss.length:=by omega
   go_wp2_with fail
   go_ret
   exact⟨rfl,⟨ys,hyl,hM,by unfold OwnT;rw[hyl];exact hown⟩,hG⟩
theorem Ado (ys:List ByteArray) (base:Nat) (u:Value) (m:Int) (w:World) (h:OwnT w base u ys) (hM:Marked ys m ys.length) (hn:ys.length<=1000) (hm:1<=m) (hm9:m<=1000000) :
  Calls Tryz.prog 68 #[u,.int .i64 m] w λe w'=>e=.returned (.int .i64 (m+ys.length))/\Below w.heap.size w w':=by
 by_cases h0:ys=[]
 ·subst h0
  obtain⟨a1,c1,rfl⟩:=h.lst.shape;simp only[List.length_nil];clear h hM;go_enter Tryz.func68,Tryz.ntmps68
  go_wp2
  go_rounds 1
  go_ret
  exact⟨by simp,A4 _ _⟩
 have hpos:0<ys.length:=by
  rcases C4 ys.length with h1|h1
  ·exact absurd (C5.1 h1) h0
  ·exact h1
 obtain⟨g,cap,rfl⟩:=F4 h hpos;have hg:=(h.lt g rfl).2
 have hcell:∀k,k<ys.length->w.cell? ⟨g,k,none⟩=some (.string (mkB (m+k))):=λk hk=>by
  rw[h.cellAt k (by omega),B0,hM k hk];rfl
 have Hcell:Hid (∀k,k<ys.length->w.cell? ⟨g,k,none⟩=some (.string (mkB (m+k)))):=hcell;clear hcell h hM;go_enter Tryz.func68,Tryz.ntmps68
 go_wp2
 go_loopw [1,5] (λkk i w'=>∃k:Nat,k<=ys.length/\i=.int .i64 k/\kk=.int .i64 (m+k)/\Below w.heap.size w w') (λ_ i _=>ys.length-(intOf i).toNat)
 case atStart=>exact⟨0,by omega,rfl,by simp,A4 _ _⟩
 case round =>
  obtain⟨k,hk,rfl,rfl,hB⟩:=hrel;by_cases hp:k<ys.length
  ·have c0:=(hB.cell (p:=⟨g,k,none⟩) hg).trans (Hcell.out k hp)
   go_wp2_with fail
   have hS:Below w.heap.size w wr/\wr.cell? ⟨g,k,none⟩=some (.string (mkB (m+k))):=⟨hB,c0⟩;clear c0
   go_region_held (λw'=>Below w.heap.size w w'/\w'.cell? ⟨g,k,none⟩=some (.string (mkB (m+k)))) (first|exact⟨hS.1.drew,hS.2⟩|exact Aab hg (by assumption) (by assumption))
    (first|(go_at_call 65;refine (F7 (m+k) _ (by omega)).mono ?_;rintro e w1 ⟨rfl,hB1⟩))
   rename_i hHeld;have hB3:=hHeld.1;clear hHeld hS hB;generalize mkB (m+k)=mb at *;go_wp2_with fail
   go_roundw
   case rel=>exact⟨k+1,by omega,by go_num,by go_num,hB3⟩
   case measure=>simp[intOf];omega
  ·obtain rfl:k=ys.length:=by omega
   go_wp2_with fail
   go_ret
   exact⟨rfl,hB⟩
def mkL (m:Int) (n:Nat):List ByteArray:=(List.range n).map λ(i:Nat)=>mkB (m+i)
theorem M7 (m:Int) (n:Nat):(mkL m n).length=n:=by simp[mkL]
theorem AaR (m:Int) (n:Nat):Marked (mkL m n) m n:=λi hi=>by simp[mkL,hi]
theorem AcB {ys:List ByteArray} {m:Int} {n:Nat} (hl:ys.length=n) (h:Marked ys m n):ys=mkL m n:=by
 refine List.ext_getElem? λi=>?_;by_cases hi:i<n
 ·rw[h i hi];exact (AaR m n i hi).symm
 ·rw[C7 (by omega),C7 (by rw[M7];omega)]
def mkBa (m:Int) (x:Ba):Ba:=⟨mkB m,mkL (m+1) x.has.length,mkL (m+1+x.has.length) x.needs.length⟩
def szBa (x:Ba):Nat:=1+x.has.length+x.needs.length
def mkBas:Int->List Ba->List Ba
 | _,[]=>[]
 | m,x::r=>mkBa m x::mkBas (m+szBa x) r
def szBas:List Ba->Nat
 | []=>0
 | x::r=>szBa x+szBas r
theorem M3:∀(m:Int) (bs:List Ba),(mkBas m bs).length=bs.length
 | _,[]=>rfl
 | m,x::r=>by simp[mkBas,M3 _ r]
theorem AcC:∀(l:List Ba) (x:Ba),szBas (l++[x])=szBas l+szBa x
 | [],x=>by simp[szBas]
 | y::r,x=>by simp[szBas,AcC r x];omega
theorem AeF:∀(m:Int) (l:List Ba) (x:Ba),mkBas m (l++[x])=mkBas m l++[mkBa (m+szBas l) x]
 | m,[],x=>by simp[mkBas,szBas]
 | m,y::r,x=>by
  simp only[List.cons_append,mkBas,AeF _ r x,szBas];rw[show m+(szBa y:Int)+(szBas r:Int)=m+((szBa y+szBas r:Nat):Int) by omega]
def curB (m:Int) (bs:List Ba) (k:Nat):List Ba:=mkBas m (bs.take k)++bs.drop k
theorem AlD (m:Int) (bs:List Ba):curB m bs 0=bs:=by simp[curB,mkBas]
theorem AmW (m:Int) (bs:List Ba):curB m bs bs.length=mkBas m bs:=by simp[curB]
theorem Aoj (m:Int) (bs:List Ba) (k:Nat) (hk:k<=bs.length):(curB m bs k)[k]?=bs[k]?:=by
 rw[curB,C9 (by rw[M3,B7];omega),List.getElem?_drop,M3,B7];congr 1;omega
theorem AlE (m:Int) (bs:List Ba) (k:Nat) (hk:k<bs.length):curB m bs (k+1)=(curB m bs k).set k (mkBa (m+szBas (bs.take k)) bs[k]):=by
 have hl:(mkBas m (bs.take k)).length=k:=by rw[M3,B7];omega
 rw[curB,curB,A7 hk,AeF,List.set_append_right _ _ (by omega),hl,Nat.sub_self,D5 hk,List.append_assoc];rfl
def mkBk (b:Bk):Bk:=⟨mkL 1 b.things.length,mkBas (1+b.things.length) b.bs⟩
def mkEnd (b:Bk):Int:=1+b.things.length+szBas b.bs
def Lit (b:Bk):Prop:=b.things.length<=100/\b.bs.length<=100/\∀x∈b.bs,x.has.length<=100/\x.needs.length<=100
theorem AaE:∀(l:List Ba),(∀x∈l,x.has.length<=100/\x.needs.length<=100)->szBas l<=201*l.length
 | [],_=>by simp[szBas]
 | x::r,h=>by
  have h1:=AaE r λy hy=>h y (C8 _ hy);have h2:=h x List.mem_cons_self;simp only[szBas,szBa,List.length_cons];omega
theorem AmX {m:Int} {bs:List Ba} {k:Nat} {ps:List Bv} (h:ps.map (·.1)=curB m bs k) (hk:k<bs.length):∃hv nv,ps[k]?=some (bs[k],hv,nv):=by
 have h1:(ps.map (·.1))[k]?=some bs[k]:=by rw[h,Aoj m bs k (Nat.le_of_lt hk),A0 hk]
 rw[B0] at h1;obtain⟨p,hp,e⟩:=B5.1 h1;exact⟨p.2.1,p.2.2,by rw[hp,← e]⟩
theorem AlF (ps:List Bv) (k:Nat) (a b:Bv):(ps.set k a).set k b=ps.set k b:=by simp
theorem AlG (t:Value×List ByteArray) (bs:List Ba) (base:Nat) (v:Value) (qs:List Bv) (m:Int) (w:World) (hrow:w.ownsRow base 128 3 v bs.length (rowsB qs)) (hq:qs.map (·.1)=bs) (G:Nat) (hG:G<w.heap.size) (hvG:∀g,v.ownBlock=some g->some g≠some G) (hF:Fam w base (some G) (t::famB qs)) (hz:base<=w.heap.size)
  (hn:bs.length<=100) (hs:∀x∈bs,x.has.length<=100/\x.needs.length<=100) (hm:1<=m) (hm9:m<=1000) :
  Calls Tryz.prog 64 #[v,.int .i64 m] w λe w'=>e=.returned (.int .i64 (m+szBas bs))/\(∃ps:List Bv,w'.ownsRow base 128 3 v bs.length (rowsB ps)/\ps.map (·.1)=mkBas m bs/\Fam w' base (some G) (t::famB ps))/\Below base w w'/\w'.heap[G]?=w.heap[G]?/\KpT [9,128] w w':=by
 rcases C4 bs.length with h0|h0
 ·obtain rfl:bs=[]:=C5.1 h0
  obtain rfl:qs=[]:=by simpa using hq
  obtain⟨a,c,rfl⟩:=F2 hrow;have HR:Hid (w.ownsRow base 128 3 (.slice a 0 c) 0 []):=hrow;have HF:Hid (Fam w base (some G) [t]):=hF;clear hrow hF hq;simp only[List.length_nil];go_enter Tryz.func64,Tryz.ntmps64
  go_wp2
  go_rounds 1
  go_ret
  exact⟨by simp[szBas],⟨[],HR.out,rfl,HF.out⟩,A4 _ _,rfl,KpT.refl _ _⟩
 obtain⟨g,cap,rfl⟩:=F4 hrow h0;have hgb:=(hrow.lt g rfl).1;have hgG:g≠G:=λe=>hvG g rfl (by rw[e]);have Hq:Hid (qs.map (·.1)=curB m bs 0):=by show _=_;rw[AlD];exact hq
 clear hq;go_enter Tryz.func64,Tryz.ntmps64
 go_wp2
 go_loopw [1,5] (λkk i w'=>∃(k:Nat) (ps:List Bv) (y:Int),k<=bs.length/\i=.int .i64 k/\kk=.int .i64 y/\y=m+szBas (bs.take k)/\1<=y/\y<=1000+201*(k:Int)/\ps.map (·.1)=curB m bs k/\w'.ownsRow base 128 3 (.slice (some ⟨g,0,none⟩) bs.length cap) bs.length (rowsB ps)/\Fam w' base (some G) (t::famB ps)/\Below base w w'/\w'.heap[G]?=w.heap[G]?/\KpT [9,128] w w') (λ_ i _=>bs.length-(intOf i).toNat)
 case atStart=>exact⟨0,qs,m,by omega,rfl,rfl,by simp[szBas],hm,by omega,Hq.out,hrow,hF,A4 _ _,rfl,KpT.refl _ _⟩
 case round =>
  clear hrow hF Hq;obtain⟨k,ps,y,hk,rfl,rfl,hy,hy1,hy9,hps,hrow,hF,hB,hK,hP⟩:=hrel;have HP0:Hid (KpT [9,128] w wr):=hP;clear hP;have HK:Hid (wr.heap[G]?=w.heap[G]?):=hK;clear hK;have Hps:Hid (ps.map (·.1)=curB m bs k):=hps;have Hy:Hid (y=m+szBas (bs.take k)):=hy;clear hps hy;by_cases hp:k<bs.length
  ·obtain⟨s1,s2⟩:=hs bs[k] (by simp)
   obtain⟨hv,nv,hpk⟩:=AmX Hps.out hp
   have hpl:ps.length=bs.length:=by
    have:=congrArg List.length Hps.out;rw[B4,curB,A9,M3,B7,A8] at this;omega
   have Hstep:Hid ((ps.set k ((mkBa y bs[k],hv,nv):Bv)).map (·.1)=curB m bs (k+1)):=by
    show _=_
    rw[List.map_set,Hps.out,AlE m bs k hp,← Hy.out]
   have Hsz:Hid (m+(szBas (bs.take (k+1)):Int)=y+szBa bs[k]):=by
    show _=_
    rw[A7 hp,AcC,Hy.out];omega
   have Hpk:Hid (ps[k]?=some (bs[k],hv,nv)):=hpk;have Hpl:Hid (ps.length=bs.length):=hpl;have hsz:=hB.size;generalize bs[k]=x0 at *;clear hpk hpl;go_wp2_with fail
   refine (F7 y wr (by omega)).mono ?_;rintro e w1 ⟨rfl,hB1⟩;have hz1:=hB1.size;have HK1:Hid (w1.heap[G]?=w.heap[G]?):=(hB1.block G (by omega)).trans HK.out;have HP1:Hid (KpT [9,128] w w1):=HP0.out.up hB1;have hrow1:=E1 hrow hB1;have hF1:=hF.up hB1;have hBB1:Below base w w1:=hB.trans (hB1.mono (by omega));have c0:=hrow1.cellAt (k*3) (by omega);rw[show (rowsB ps)[k*3]?=some (Value.string x0.nm) from K5 ps k _ Hpk.out 0 _ rfl] at c0;have f0:=hrow1.frozenAt (k*3);have st:=hrow1.stored (k*3) (.string (mkB y));have hrow2:=st.1;rw[AgX ps k _ (mkB y) Hpk.out] at hrow2;have hF2:=hF1.row hrow1 st.2;have HK2:Hid ((w1.setCell ⟨g,k*3,none⟩ (.string (mkB y))).heap[G]?=w.heap[G]?):=(st.2.block G (by omega) (by simp;omega)).trans HK1.out;have hB2:Below base w (w1.setCell ⟨g,k*3,none⟩ (.string (mkB y))):=F1 hBB1 (by omega) hrow1 st.2 (A3 _);have HP2:Hid (KpT [9,128] w (w1.setCell ⟨g,k*3,none⟩ (.string (mkB y)))):=HP1.out.gr hrow1 (by decide) st.2;have hz2:(w1.setCell ⟨g,k*3,none⟩ (.string (mkB y))).heap.size=w1.heap.size:=by simp
   have Hmb:Hid (mkBa y x0=⟨mkB y,mkL (y+1) x0.has.length,mkL (y+1+x0.has.length) x0.needs.length⟩):=rfl;clear hrow hF hB hB1 hrow1 hF1 hBB1 st;generalize mkB y=mb at *;go_upto_region 6 with fail
   clear c0 f0;generalize w1.setCell ⟨g,k*3,none⟩ (.string mb)=W2 at *;have Hp2:Hid ((ps.set k ((⟨mb,x0.has,x0.needs⟩,hv,nv):Bv))[k]?=some (⟨mb,x0.has,x0.needs⟩,hv,nv)):=D0 (by rw[Hpl.out];exact hp);have hF3:=hF2.front Hpk.out;have hoh:=hF3.own _ List.mem_cons_self;obtain⟨ah,ch,hhv⟩:=hoh.lst.shape;have hon:=hF3.own _ (C8 _ List.mem_cons_self);obtain⟨an,cn,hnv⟩:=hon.lst.shape;simp only at hhv hnv;subst hhv hnv;have c1:=hrow2.cellAt (k*3+1) (by omega);rw[K5 _ k _ Hp2.out 1 _ rfl] at c1;go_wp2_with fail
   refine (Adn x0.has base _ (y+1) _ hoh (by omega) (by omega) (by omega)).mono ?_;rintro e w3 ⟨rfl,⟨ys,hyl,hym,hoy⟩,hg3⟩;obtain rfl:=AcB hyl hym;have hz3:=hg3.size;have hF4:=hF3.over (by omega) hg3 hoy;have HK3:Hid (w3.heap[G]?=w.heap[G]?):=(hF3.off (by omega) hg3).trans HK2.out;have HP3:Hid (KpT [9,128] w w3):=HP2.out.gr hoh (by decide) hg3;have hrow3:=Aeg hrow2 hoh hg3;have hB3:Below base w w3:=F1 hB2 (by omega) hoh hg3 (A3 _);have hon3:=hF4.own _ (C8 _ List.mem_cons_self);have hF5:=hF4.swap;clear c1 hrow2 hF2 hF3 hoh hon hF4 hg3 hB2 hyl hym hoy;have c2:=hrow3.cellAt (k*3+2) (by omega);rw[K5 _ k _ Hp2.out 2 _ rfl] at c2;go_wp2_with fail
   refine (Adn x0.needs base _ (y+1+x0.has.length) _ hon3 (by omega) (by omega) (by omega)).mono ?_;rintro e w4 ⟨rfl,⟨ys,hyl,hym,hoy⟩,hg4⟩;obtain rfl:=AcB hyl hym;have hF6:=(hF5.over (by omega) hg4 hoy).swap;have HK4:Hid (w4.heap[G]?=w.heap[G]?):=(hF5.off (by omega) hg4).trans HK3.out;have HP4:Hid (KpT [9,128] w w4):=HP3.out.gr hon3 (by decide) hg4;have hrow4:=Aeg hrow3 hon3 hg4;have hB4:Below base w w4:=F1 hB3 (by omega) hon3 hg4 (A3 _);clear c2 hrow3 hF5 hon3 hg4 hB3 hyl hym hoy
   have Hrow:Hid (w4.ownsRow base 128 3 (.slice (some ⟨g,0,none⟩) bs.length cap) bs.length (rowsB (ps.set k ((mkBa y x0,.slice ah x0.has.length ch,.slice an x0.needs.length cn):Bv)))):=by
    have:=AeE (ps.set k ((⟨mb,x0.has,x0.needs⟩,.slice ah x0.has.length ch,.slice an x0.needs.length cn):Bv)) k _ (mkBa y x0) Hp2.out (by rw[Hmb.out]);rw[AlF] at this;show _
    rw[this];exact hrow4
   have HF:Hid (Fam w4 base (some G) (t::famB (ps.set k ((mkBa y x0,.slice ah x0.has.length ch,.slice an x0.needs.length cn):Bv)))):=by
    refine Fam.back ?_ (by rw[Hpl.out];exact hp);rw[Hmb.out];exact hF6
   clear hrow4 hF6;go_wp2_with fail
   go_roundw
   case rel=>exact⟨k+1,_,_,by omega,by go_num,rfl,by rw[Hsz.out];simp[szBa];omega,by omega,by omega,Hstep.out,Hrow.out,HF.out,hB4,HK4.out,HP4.out⟩
   case measure=>simp[intOf];omega
  ·obtain rfl:k=bs.length:=by omega
   have HE:Hid (y=m+szBas bs):=by have:=Hy.out;rwa [List.take_length] at this
   have HP:Hid (ps.map (·.1)=mkBas m bs):=by have:=Hps.out;rwa [AmW] at this
   go_wp2_with fail
   go_ret
   exact⟨by rw[← HE.out];rfl,⟨ps,hrow,HP.out,hF⟩,hB,HK.out,HP0.out⟩
theorem AmY (k:Int):(mkB k).size<=k.toNat+2:=by
 unfold mkB;split
 ·show 2<=_;omega
 ·rw[ByteArray.size_append]
  have h1:=AmL k.toNat ⟨#[]⟩;have h2:(⟨#[]⟩:ByteArray).size=0:=rfl;have h3:(⟨#[109]⟩:ByteArray).size=1:=rfl;omega
theorem Aej:∀(m:Int) (bs:List Ba) (k:Nat) (hk:k<bs.length),(mkBas m bs)[k]?=some (mkBa (m+szBas (bs.take k)) bs[k])
 | m,x::r,0,_=>by simp[mkBas,szBas]
 | m,x::r,k+1,hk=>by
  have ih:=Aej (m+szBa x) r k (by simpa using hk);simp only[mkBas,List.getElem?_cons_succ,List.take_succ_cons,szBas,List.getElem_cons_succ];rw[ih,show m+(szBa x:Int)+(szBas (r.take k):Int)=m+((szBa x+szBas (r.take k):Nat):Int) by omega]
theorem AeG:∀(bs:List Ba) (k:Nat),szBas (bs.take k)<=szBas bs
 | [],k=>by simp[szBas]
 | x::r,0=>by simp[szBas]
 | x::r,k+1=>by
  have:=AeG r k;simp only[List.take_succ_cons,szBas];omega
theorem AmZ {m:Int} {bs:List Ba} (h:m+szBas bs<=100000):∀x∈mkBas m bs,x.nm.size<=maxLen:=λx hx=>by
 obtain⟨i,hi,rfl⟩:=B6 hx;have hi':i<bs.length:=by rwa [M3] at hi
 have h1:=Aej m bs i hi';rw[A0 hi] at h1;rw[A5 h1];have h2:=AmY (m+szBas (bs.take i));have h3:=AeG bs i;show (mkB _).size<=_
 unfold maxLen;omega
theorem AjW (b:Bk) (base:Nat) (v:Value) (w:World) (G:Nat) (hG:G<w.heap.size) (h:BkG w base (some G) v b) (hl:Lit b) (hz:base<=w.heap.size) :
  Calls Tryz.prog 26 #[v,.int .i64 1] w λe w'=>e=.returned (.int .i64 (mkEnd b))/\BkG w' base (some G) v (mkBk b)/\Below base w w'/\w'.heap[G]?=w.heap[G]?/\KpT [9,128] w w':=by
 obtain⟨a1,c1,a2,c2,ps,rfl,x1,x2,hF,hvG⟩:=h;obtain⟨l1,l2,l3⟩:=hl;have HvG:Hid (∀g,(Value.slice a2 b.bs.length c2).ownBlock=some g->some g≠some G):=hvG;clear hvG;have Hlid:Hid (szBas b.bs<=201*b.bs.length):=AaE b.bs l3;have hps:ps.length=b.bs.length:=by rw[← x2,B4]
 have hrow:=x1.1;rw[hps] at hrow;have hot:=hF.own _ List.mem_cons_self;have hlt:∀g,(Value.slice a1 b.things.length c1).ownBlock=some g->g<w.heap.size:=λg hg=>(hot.lt g hg).2;obtain⟨W1,hW1,kA,hB1,hs1⟩:=K9 w [.slice a1 b.things.length c1,.slice a2 b.bs.length c2] 33;have hot1:=hot.up hB1;have hF1:=hF.up hB1;have hrow1:=E1 hrow hB1;have hBB1:Below base w W1:=(A4 base w).trans (hB1.mono hz);clear hot hF hrow x1;go_enter Tryz.func26,Tryz.ntmps26
 go_upto_region 1 with fail
 try rw[hW1]
 clear hW1;obtain⟨p0,p1⟩:=kA.c2';go_wp2_with fail
 refine (Adn b.things base _ 1 _ hot1 (by omega) (by omega) (by omega)).mono ?_;rintro e w2 ⟨rfl,⟨ys,hyl,hym,hoy⟩,hg2⟩;obtain rfl:=AcB hyl hym;have hz2:=hg2.size;have hF2:=hF1.over (by omega) hg2 hoy;have HK2:Hid (w2.heap[G]?=w.heap[G]?):=(hF1.off (by omega) hg2).trans (hB1.block G hG);have HP2:Hid (KpT [9,128] w w2):=((KpT.refl _ _).up hB1).gr hot1 (by decide) hg2;have hrow2:=Aeg hrow1 hot1 hg2;have hB2:Below base w w2:=F1 hBB1 (by omega) hot1 hg2 (A3 _);have kA2:=kA.kept hg2 (λe=>by have:=hlt _ e.symm;omega);clear p0 p1 kA hot1 hF1 hrow1 hBB1 hg2 hyl hym hoy;obtain⟨p0,p1⟩:=kA2.c2';go_wp2_with fail
 refine (AlG _ b.bs base _ ps (1+b.things.length) _ hrow2 x2 G (by omega) HvG.out hF2 (by omega) l2 l3 (by omega) (by omega)).mono ?_;rintro e w3 ⟨rfl,⟨qs,hrow3,hq3,hF3⟩,hB3,hK3,hP3⟩;have HP3:Hid (KpT [9,128] w w3):=HP2.out.trans hP3;clear hP3;have HK3:Hid (w3.heap[G]?=w.heap[G]?):=hK3.trans HK2.out;clear hK3;have hB4:=hB2.trans hB3;have Hr:Hid (w3.ownsRow base 128 3 (.slice a2 b.bs.length c2) b.bs.length (rowsB qs)):=hrow3;have Hq:Hid (qs.map (·.1)=mkBas (1+b.things.length) b.bs):=hq3;clear p0 p1 kA2 hrow2 hF2 hrow3 hq3;go_wp2_with fail
 go_ret
 refine⟨rfl,?_,hB4,HK3.out,HP3.out⟩
 have hql:qs.length=b.bs.length:=by
  have:=congrArg List.length Hq.out;rwa [B4,M3] at this
 refine⟨a1,c1,a2,c2,qs,?_,?_,Hq.out,?_,?_⟩
 ·show Value.agg #[_,_]=Value.agg #[.slice _ (mkL 1 b.things.length).length _,.slice _ (mkBas _ b.bs).length _]
  rw[M7,M3]
 ·show BsW _ _ (.slice _ (mkBas _ b.bs).length _) _
  rw[M3];refine hF3.bsW (fs:=[(.slice a1 b.things.length c1,mkL 1 b.things.length)]) (by rw[hql];exact Hr.out) (λp hp=>?_);have hm:p.1∈mkBas (1+b.things.length) b.bs:=by rw[← Hq.out];exact List.mem_map.2 ⟨p,hp,rfl⟩
  exact AmZ (by have:=Hlid.out;omega) p.1 hm
 ·show Fam _ _ _ ((.slice _ (mkL 1 b.things.length).length _,_)::_)
  rw[M7];exact hF3
 ·intro g hg
  rw[show (mkBk b).bs.length=b.bs.length from M3 _ _] at hg;exact HvG.out g hg
end Go.Proofs.YtebfdccbmmpceaaGreatDoor
