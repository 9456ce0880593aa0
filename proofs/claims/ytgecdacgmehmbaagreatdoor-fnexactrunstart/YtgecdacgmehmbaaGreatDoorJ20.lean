/- The program's RecSlots; both sides tell one list. -/
import Derived.Test.YtgecdacgmehmbaaGreatDoorSr2
import Derived.Test.YtgecdacgmehmbaaGreatDoorJ10
import Derived.Deep.RegionWith
import Derived.Test.YtgecdacgmehmbaaGreatDoorJ18
import Derived.Test.YtgecdacgmehmbaaGreatDoorJ19
import Derived.Test.YtgecdacgmehmbaaGreatDoorJ2
import Derived.Deep.RegionHeld
namespace Go.Proofs.YtgecdacgmehmbaaGreatDoor
open Go.RowKit
theorem Acf (ss:List ByteArray):namesOf (keys ss)=ss:=by
 rw[namesOf,keys,List.map_map]
 have:((λl:Key=>(⟨l.toArray⟩:ByteArray)) ∘ λs:ByteArray=>s.toList)=id:=by
  funext s
  show (⟨s.toList.toArray⟩:ByteArray)=s
  rw[Go.ByteArray.toList_eq]
 rw[this,List.map_id]
def slK (ps:List Ph) (nm:ByteArray):List Key:=if recB ps=true then slI ps nm else []
theorem Ajb (ps:List Ph) (nm:ByteArray):namesOf (slK ps nm)=slotsV ps nm:=by
 unfold slK slotsV;split
 ·rw[← Z9,Acf]
 ·rfl
theorem AmX {w:World} {base:Nat} {u:Value} {ks:List Key} (h:OwnV w base (u,ks)):OwnT w base u (namesOf ks):=by
 have:(namesOf ks).length=ks.length:=by simp[namesOf]
 unfold OwnT;rw[this];exact h
theorem AcI (ps:List Ph) (b o c:Nat) (nm:ByteArray) (w:World) (hE:Ends w) (hr:RecAt w b o ps) (hb:b<w.heap.size) (hs:Sized ps) (hcap:ps.length<=c) (hc9:c<=9223372036854775807) :
  Calls Tryz.prog 124 #[.slice (some ⟨b,o,none⟩) ps.length c,.string nm] w λe w'=>(∃u,e=.returned u/\OwnT w' w.heap.size u (slotsV ps nm))/\Below w.heap.size w w':=by
 cases hok:recB ps
 ·have HV:Hid (slotsV ps nm=[]):=by show _=_;simp[slotsV,hok]
  go_enter Tryz.func124,Tryz.ntmps124
  go_wp2_with fail
  refine (Abk ps b o c _ hE hr hb hs hcap hc9).mono ?_;rintro e w1 ⟨he,hB1⟩;rw[hok] at he;subst he;go_wp2_with fail
  go_ret
  exact⟨⟨_,rfl,by rw[HV.out];exact B7 _ _ _ _⟩,hB1⟩
 ·have hd:=AeQ hok 0
  rw[List.drop_zero] at hd;have h12:ps.length<=12:=((I4 ps).1 hok).2.1
  have HV:Hid (∀rs:List (ByteArray×VK),plainR rs=fill feK fpK [] ps->namesOf (look rs nm nilR).2=slotsV ps nm):=by
   show _;intro rs hpl
   rw[← Aa9,hpl,Ac4 _ _ _ _ hd,← Ajb];unfold slK;rw[if_pos hok];rfl
  clear hd;go_enter Tryz.func124,Tryz.ntmps124
  go_wp2_with fail
  refine (Abk ps b o c _ hE hr hb hs hcap hc9).mono ?_;rintro e w1 ⟨he,hB1⟩;rw[hok] at he;subst he;go_wp2_with fail
  refine (Ak0 ps b o c _ (hE.up hB1) (hr.up hB1 hb) (A1 hb hB1.size) hok).mono ?_;rintro e w2 ⟨⟨g,cap,rs,rfl,hpl,hT⟩,hB2⟩
  have hlen:rs.length<=1048576:=by
   have:=congrArg List.length hpl;rw[Ad4] at this;simp only[plainR,B3] at this;omega
  have hB12:=D5 hB1 hB2;have hnn:=HV.out rs hpl;have Hnn:Hid (namesOf (look rs nm nilR).2=slotsV ps nm):=hnn;clear hnn hpl hB2;go_wp2_with fail
  refine (Ail rs w1.heap.size g cap nm _ hT hlen).mono ?_;rintro e w3 ⟨rfl,hB3⟩;have hO:OwnT w3 w1.heap.size (look rs nm nilR).1 (namesOf (look rs nm nilR).2):=AmX (u:=(look rs nm nilR).1) (ks:=(look rs nm nilR).2) ((hT.up hB3).look nm);have hB13:=D5 hB12 hB3;rw[Hnn.out] at hO;clear hT hB12 hB3;go_wp2_with fail
  go_ret
  exact⟨⟨_,rfl,F9 hO hB1.size⟩,hB13⟩
theorem Aek (nm ad:ByteArray) (a1 a2:Option Addr) (n1 n2 c1 c2:Nat) (st:Int) (w:World) :
  Calls Tryz.prog 147 #[.agg #[.string nm,.slice a1 n1 c1,.slice a2 n2 c2,.string ad,.int .i64 (-1),.int .i64 st]] w λe w'=>e=.returned (.iface 233 (.agg #[]))/\Below w.heap.size w w':=by
 go_enter Tryz.func147,Tryz.ntmps147
 go_wp2
 go_ret
 exact⟨rfl,by go_grown⟩
theorem AdA (nm ad:ByteArray) (a1 a2:Option Addr) (n1 n2 c1 c2:Nat) (si st:Int) (w:World) (h:¬si=-1) :
  Calls Tryz.prog 147 #[.agg #[.string nm,.slice a1 n1 c1,.slice a2 n2 c2,.string ad,.int .i64 si,.int .i64 st]] w λe w'=>e=.returned (.iface 219 (.agg #[.int .i64 si]))/\Below w.heap.size w w':=by
 go_enter Tryz.func147,Tryz.ntmps147
 go_wp2
 go_ret
 exact⟨rfl,by go_grown⟩
theorem Ajc (n:Int) (w:World):Calls Tryz.prog 267 #[.agg #[],.int .i64 n] w λe w'=>e=.returned (.bool true)/\Below w.heap.size w w':=by
 go_enter Tryz.func267,Tryz.ntmps267
 go_wp2
 go_ret
 exact⟨rfl,by go_grown⟩
theorem Ag3 (si n:Int) (w:World):Calls Tryz.prog 263 #[.agg #[.int .i64 si],.int .i64 n] w λe w'=>e=.returned (.bool (decide (0<=si)&&decide (si<n)))/\Below w.heap.size w w':=by
 by_cases h:0<=si
 ·go_enter Tryz.func263,Tryz.ntmps263
  go_wp2
  go_ret
  exact⟨D6 (by simp[h]),by go_grown⟩
 ·go_enter Tryz.func263,Tryz.ntmps263
  go_wp2
  go_ret
  exact⟨D6 (by simp;omega),by go_grown⟩
theorem AlT {w:World} {v:Value} {ss:List ByteArray} (h:Lst w v ss) {k:Nat} (hk:k<ss.length):∃g c,v=.slice (some ⟨g,0,none⟩) ss.length c/\w.cell? ⟨g,k,none⟩=some (.string ss[k])/\g<w.heap.size:=by
 rcases h with⟨_,h2⟩|⟨g,c,h1,hS,hg,-⟩
 ·subst h2;simp at hk
 ·exact⟨g,c,h1,by have:=hS k ss[k] (by simp);simpa using this,hg⟩
theorem Afe {ps:List Ph} (hs:Sized ps) (nm:ByteArray):∀s∈slE ps nm,s.size<=maxLen:=λs hs'=>by
 have h1:s.toList∈keys (slE ps nm):=List.mem_map.2 ⟨s,hs',rfl⟩;rw[Z9] at h1;have h2:=Ac6 ps nm _ h1;obtain⟨p,hp,h3⟩:=List.mem_flatMap.1 h2;obtain⟨_,z1,z2,_,_⟩:=hs p hp;unfold ownK at h3;split at h3
 ·simp only[List.mem_cons,List.not_mem_nil,or_false] at h3
  rcases h3 with h3|h3
  ·rw[N0 h3];exact z1
  ·rw[N0 h3];exact z2
 ·simp only[List.mem_cons,List.not_mem_nil,or_false] at h3
  rw[N0 h3];exact z1
set_option maxRecDepth 20000 in
set_option maxHeartbeats 4000000 in
theorem Ag4 (ps:List Ph) (l:List Sl) (b o c g q cc:Nat) (w:World) (hE:Ends w) (hr:RecAt w b o ps) (hb:b<w.heap.size) (hs:Sized ps) (hcap:ps.length<=c) (hc9:c<=9223372036854775807) (hok:recB ps=true)
  (hl:SlAt w g q l) (hg:g<w.heap.size) (hn:l.length<=1048576) (hz:∀y∈l,y.s.size<=maxLen/\y.t.size<=maxLen) :
  Calls Tryz.prog 148 #[.slice (some ⟨g,q,none⟩) l.length cc,.slice (some ⟨b,o,none⟩) ps.length c] w λe w'=>e=.returned (.bool (pB (SlotsOk ps l)))/\Below w.heap.size w w':=by
 obtain⟨hp1,hp12,-⟩:=(I4 ps).1 hok;obtain⟨c0,-⟩:=hr.cells 0 (by omega);rw[show o+0*8=o by omega] at c0;have hsl:=Aap ps (fstN ps);have hcall:=λW (hB:Below w.heap.size w W)=>AcI ps b o c (fstN ps) W (hE.up hB) (hr.up hB hb) (A1 hb hB.size) hs hcap hc9;have hV:slotsV ps (fstN ps)=slE ps (fstN ps):=by simp[slotsV,hok]
 rw[hV] at hcall;rw[← S9 (by omega)] at c0;have hnd:=AeW ps (fstN ps);have hsz:=Afe hs (fstN ps);have HP:Hid (SlotsOk ps l=SlOk l (slE ps (fstN ps))):=rfl;have hlen24:(slE ps (fstN ps)).length<=24:=by omega
 clear hV hsl;generalize slE ps (fstN ps)=ns at *;generalize fstN ps=f0 at *;go_enter Tryz.func148,Tryz.ntmps148
 go_wp2_with fail
 refine (hcall _ (A4 _ _)).mono ?_;rintro e w1 ⟨⟨u,rfl,hO⟩,hB1⟩;have hL:=hO.lst;obtain⟨ua,uc,rfl⟩:=hL.shape;have Hnd:Hid (keys ns).Nodup:=hnd;have Hcall:Hid True:=trivial;clear hcall c0 hnd;by_cases hll:l.length=ns.length
 case neg =>
  have HN:Hid (pB (SlotsOk ps l)=false):=F1 (by rw[HP.out];exact λh=>hll h.1);go_wp2_with fail
  go_ret
  exact⟨D6 HN.out.symm,hB1⟩
 have Hll:Hid (l.length=ns.length):=hll;go_upto_region 4 with fail
 clear hll;have hn:ns.length<=1048576:=by omega
 go_wp2_with fail
 go_loopw [6,7,21] (λ_ _ i w'=>∃k:Nat,k<=ns.length/\i=.int .i64 k/\SlP l ns k/\Below w1.heap.size w1 w') (λ_ _ i _=>ns.length-(intOf i).toNat)
 case atStart=>exact⟨0,by omega,rfl,λj x hj _=>by omega,A4 _ _⟩
 case round =>
  obtain⟨k,hk,rfl,hP,hB⟩:=hrel;have HPk:Hid (SlP l ns k):=hP;clear hP;by_cases hkn:k<ns.length
  ·have hp:k<l.length:=by have:=Hll.out;omega
   obtain⟨d0,d1⟩:=(hl.up (D5 hB1 hB) hg).cells k hp;obtain⟨gu,cu,hu,e0,hgu⟩:=AlT (hL.up hB) hkn;simp only[Value.slice.injEq] at hu;obtain⟨rfl,-,rfl⟩:=hu;obtain⟨zs,zt⟩:=hz l[k] (by simp);have N1:Hid (((l[k]).s.toList==(ns[k]).toList)=false->¬SlOk l ns):=SlP.no1 hp hkn;have N2:Hid (nameB (l[k]).t=false->¬SlOk l ns):=SlP.no2 hp;have N3:Hid (((l[k]).s.toList==(ns[k]).toList)=true->nameB (l[k]).t=true->SlP l ns (k+1)):=HPk.out.step hp hkn;generalize l[k]=y at *;generalize ns[k]=s0 at *;have hB2:=hB.alloc hB.size (.cells #[.string (y).s,.string (y).t] 81);have hC:CB (wr.alloc (.cells #[.string (y).s,.string (y).t] 81)) wr.heap.size [.string y.s,.string y.t]:=E8 wr _ _;have e1:=((A4 wr.heap.size wr).alloc (A3 _) (.cells #[.string (y).s,.string (y).t] 81)).cell (p:=⟨gu,k,none⟩) hgu |>.trans e0
   go_upto_region 7 with fail
   generalize wr.alloc (.cells #[.string (y).s,.string (y).t] 81)=W1 at *;obtain⟨⟨f0',f1⟩,-⟩:=hC.c2;clear d0 d1 e0 hB;cases h1:(y.s.toList==s0.toList)
   ·have Hno:Hid (pB (SlotsOk ps l)=false):=F1 (by rw[HP.out];exact N1.out h1)
    go_wp2_with fail
    go_quiet (fail)
    go_wp2
    go_ret
    exact⟨D6 Hno.out.symm,E7 (D5 hB1 hB2) _⟩
   ·cases h2:nameB y.t
    ·have Hno:Hid (pB (SlotsOk ps l)=false):=F1 (by rw[HP.out];exact N2.out h2)
     go_wp2_with fail
     go_region_with (go_at_call 144;refine (M6 _ _ zt).mono ?_;rintro e w3 ⟨rfl,hb3⟩)
     all_goals
      have hB3:=D5 (D5 hB1 hB2).drew hb3;go_wp2_with fail
      go_ret
      exact⟨D6 Hno.out.symm,hB3⟩
    ·have Hyes:Hid (SlP l ns (k+1)):=N3.out h1 h2
     go_wp2_with fail
     go_region_with (go_at_call 144;refine (M6 _ _ zt).mono ?_;rintro e w3 ⟨rfl,hb3⟩)
     all_goals
      have hB3:=D5 hB2.drew hb3;go_wp2_with fail
      go_roundw
      case rel=>exact⟨k+1,by omega,by go_num,Hyes.out,hB3⟩
      case measure=>simp[intOf];omega
  ·have HPl:Hid (SlP l ns l.length):=by
    have:=HPk.out;rwa [show k=l.length by have:=Hll.out;omega] at this
   have hB13:=D5 hB1 hB;go_wp2_with fail
   refine (AiU l _ g q cc _ Hll.out (hl.up hB13 hg) (A1 hg hB13.size) hn (λy hy=>(hz y hy).1)).mono ?_;rintro e w4 ⟨⟨M,D,rfl,hM,hD,-⟩,hB4⟩;go_wp2_with fail
   refine (Abu l ns M _ D _ _ hM hD ((hL.up hB).up hB4) hsz (by omega)).mono ?_;rintro e w5 ⟨⟨u5,rfl,hO5⟩,hB5⟩;obtain⟨a5,c5,rfl⟩:=hO5.lst.shape;have hlen:(namesOf (thI l ns)).length=(thI l ns).length:=by simp[namesOf]
   have Hc:Hid ((thI l ns).length=l.length↔SlOk l ns):=SlP.count Hll.out HPl.out Hnd.out;have hB15:=D5 (D5 hB13 hB4) hB5;have hth:=Aie l ns;rw[hlen];clear hO5 hM hD hB4 hB5 hlen;rw[Hll.out] at Hc;by_cases hq:(thI l ns).length=ns.length
   ·have Hq:Hid (pB (SlotsOk ps l)=true):=G9 (by rw[HP.out];exact Hc.out.1 hq)
    go_wp2_with fail
    go_ret
    exact⟨D6 (by rw[Hq.out]),hB15⟩
   ·have Hq:Hid (pB (SlotsOk ps l)=false):=F1 (by rw[HP.out];exact λh=>hq (Hc.out.2 h))
    go_wp2_with fail
    go_ret
    exact⟨D6 (by rw[Hq.out];simp;omega),hB15⟩
end Go.Proofs.YtgecdacgmehmbaaGreatDoor
