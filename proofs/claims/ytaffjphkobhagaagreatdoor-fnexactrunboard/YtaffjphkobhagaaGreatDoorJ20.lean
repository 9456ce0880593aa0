/- The program's RecSlots; both sides tell one list. -/
import Derived.Test.YtaffjphkobhagaaGreatDoorSr2
import Derived.Test.YtaffjphkobhagaaGreatDoorWr3
import Derived.Test.YtaffjphkobhagaaGreatDoorJ18
namespace Go.Proofs.YtaffjphkobhagaaGreatDoor
open Proofs.Tryz
open Go.RowKit
variable{ss:List BA}{ps:List Ph}{base k:Nat}{u v:Value}{w:World}
theorem Jy(ss:List BA):F8 (D7 ss)=ss:=by
 rw[F8,D7,List.map_map]
 have:((λl:T6=>(⟨l.toArray⟩:BA)) ∘ λs:BA=>s.toList)=id:=by
  funext s
  show (⟨s.toList.toArray⟩:BA)=s
  rw[Go.ByteArray.toList_eq]
 rw[this,List.map_id]
def slK(ps:List Ph)(nm:BA):List T6:=if M3 ps=true then Io ps nm else []
theorem Xm(ps:List Ph)(nm:BA):F8 (slK ps nm)=Cc ps nm:=by
 unfold slK Cc;split
 .rw[← DA,Jy]
 .rfl
theorem AdZ{ks:List T6}(h:BD w base (u,ks)):F9 w base u (F8 ks):=by
 have:(F8 ks).length=ks.length:=by simp[F8]
 unfold F9;rw[this];exact h
theorem Kq(ps:List Ph)(b o c:Nat)(nm:BA)(w:World)(hE:F6 w)(hr:G4 w b o ps)(hb:b<w.heap.size)(hs:Dz ps)(hcap:ps.length<=c)(hc9:c<=9223372036854775807):
  Calls prog 141 #[Sx b o ps.length c,Tz nm] w λe w'=>(∃u,e=.returned u/\F9 w' w.heap.size u (Cc ps nm))/\Up w w':=by
 cases hok:M3 ps
 .have HV:Hid (Cc ps nm=[]):=by show _=_;simp[Cc,hok]
  go_in;go_wp2_with fail;refine (Dr ps b o c _ hE hr hb hs hcap hc9).mono ?_;rintro e w1 ⟨he,a0⟩;rw[hok] at he;subst he;go_wp2_with fail;go_ret;exact⟨⟨_,rfl,by rw[HV.out];exact B9 _ _ _ _⟩,a0⟩
 .have hd:=EA hok 0;rw[List.drop_zero] at hd;have a9:ps.length<=12:=((J2 ps).1 hok).2.1
  have HV:Hid (∀rs:List (BA×VK),CR rs=fill MC EX [] ps->F8 (look rs nm P3).2=Cc ps nm):=by
   show _;intro rs a2
   rw[← Fk,a2,Do _ _ _ _ hd,← Xm];unfold slK;rw[if_pos hok];rfl
  clear hd;go_in;go_wp2_with fail;refine (Dr ps b o c _ hE hr hb hs hcap hc9).mono ?_;rintro e w1 ⟨he,a0⟩;rw[hok] at he;subst he;go_wp2_with fail;refine (Zw ps b o c _ (hE.up a0) (hr.up a0 hb) (A1 hb a0.size) hok).mono ?_;rintro e w2 ⟨⟨g,a8,rs,rfl,a2,hT⟩,a7⟩
  have a3:rs.length<=1048576:=by
   have:=congrArg List.length a2;rw[Dc] at this;simp only[CR,B5] at this;omega
  have a1:=D3 a0 a7;have a6:=HV.out rs a2;have Hnn:Hid (F8 (look rs nm P3).2=Cc ps nm):=a6;clear a6 a2 a7;go_wp2_with fail;refine (Vx rs w1.heap.size g a8 nm _ hT a3).mono ?_;rintro e w3 ⟨rfl,a5⟩;have hO:F9 w3 w1.heap.size (look rs nm P3).1 (F8 (look rs nm P3).2):=AdZ (u:=(look rs nm P3).1) (ks:=(look rs nm P3).2) ((hT.up a5).look nm);have a4:=D3 a1 a5;rw[Hnn.out] at hO;clear hT a1 a5;go_wp2_with fail;go_ret;exact⟨⟨_,rfl,Dj hO a0.size⟩,a4⟩
theorem Nf(nm ad:BA)(a1 a2:Option Addr)(n1 n2 c1 c2:Nat)(st:Int)(w:World):
  cU prog 137 #[.agg #[Tz nm,Vz a1 n1 c1,Vz a2 n2 c2,Tz ad,Iz (-1),Iz st]] w (.iface 228 (.agg #[])):=by
 delta cU;go_in;go_wp2;go_ret;exact⟨rfl,by go_grown⟩
theorem Mb(nm ad:BA)(a1 a2:Option Addr)(n1 n2 c1 c2:Nat)(si st:Int)(w:World)(h:¬si=-1):
  cU prog 137 #[.agg #[Tz nm,Vz a1 n1 c1,Vz a2 n2 c2,Tz ad,Iz si,Iz st]] w (.iface 193 (.agg #[Iz si])):=by
 delta cU;go_in;go_wp2;go_ret;exact⟨rfl,by go_grown⟩
theorem Xn(n:Int)(w:World):cU prog 250 #[.agg #[],Iz n] w (.bool true):=by
 delta cU;go_in;go_wp2;go_ret;exact⟨rfl,by go_grown⟩
theorem Su(si n:Int)(w:World):Calls prog 249 #[.agg #[.int .i64 si],.int .i64 n] w λe w'=>e=.returned (.bool (decide (0<=si)&&decide (si<n)))/\Up w w':=by
 by_cases h:0<=si
 .go_in;go_wp2;go_ret;exact⟨D4 (by simp[h]),by go_grown⟩
 .go_in;go_wp2;go_ret;exact⟨D4 (by simp;omega),by go_grown⟩
theorem AbF(h:CF w v ss)(hk:k<ss.length):∃g c,v=Sy g ss.length c/\AS w g k (Tz ss[k])/\g<w.heap.size:=by
 rcases h with⟨_,h2⟩|⟨g,c,h1,hS,hg,-⟩
 .subst h2;simp at hk
 .exact⟨g,c,h1,by have:=hS k ss[k] dC;simpa using this,hg⟩
theorem Po(hs:Dz ps)(nm:BA):∀s∈Y3 ps nm,s.size<=maxLen:=λs hs'=>by
 have h1:s.toList∈D7 (Y3 ps nm):=List.mem_map.2 ⟨s,hs',rfl⟩;rw[DA] at h1;have h2:=Kc ps nm _ h1;obtain⟨p,hp,h3⟩:=List.mem_flatMap.1 h2;obtain⟨_,z1,z2,_,_⟩:=hs p hp;unfold Ed at h3;split at h3
 .simp only[List.mem_cons,List.not_mem_nil,or_false] at h3;rcases h3 with h3|h3
  .rw[Aw h3];exact z1
  .rw[Aw h3];exact z2
 .simp only[List.mem_cons,List.not_mem_nil,or_false] at h3;rw[Aw h3];exact z1
set_option maxRecDepth 20000 in
set_option maxHeartbeats 4000000 in
theorem Sv(ps:List Ph)(l:List Sl)(b o c g q cc:Nat)(w:World)(hE:F6 w)(hr:G4 w b o ps)(hb:b<w.heap.size)(hs:Dz ps)(hcap:ps.length<=c)(hc9:c<=9223372036854775807)(hok:M3 ps=true)
  (hl:Z9 w g q l) (hg:g<w.heap.size) (hn:l.length<=1048576) (hz:∀y∈l,y.s.size<=maxLen/\y.t.size<=maxLen) :
  cU prog 138 #[Sx g q l.length cc,Sx b o ps.length c] w (.bool (pB (J5 ps l))):=by
 obtain⟨b8,b4,-⟩:=(J2 ps).1 hok;obtain⟨c0,-⟩:=hr.cells 0 oM;rw[show o+0*8=o by omega] at c0;have b6:=Ip ps (BC ps);have a0:=λW (hB:Up w W)=>Kq ps b o c (BC ps) W (hE.up hB) (hr.up hB hb) (A1 hb hB.size) hs hcap hc9;have hV:Cc ps (BC ps)=Y3 ps (BC ps):=by simp[Cc,hok]
 rw[hV] at a0;rw[← Pf oM] at c0;have b1:=Pg ps (BC ps);have b7:=Po hs (BC ps);have HP:Hid (J5 ps l=Eh l (Y3 ps (BC ps))):=rfl;have a6:(Y3 ps (BC ps)).length<=24:=oM
 clear hV b6;generalize Y3 ps (BC ps)=ns at *;generalize BC ps=f0 at *;delta cU;go_in;go_wp2_with fail;refine (a0 _ (A4 _ _)).mono ?_;rintro e w1 ⟨⟨u,rfl,hO⟩,a4⟩;have hL:=hO.lst;obtain⟨ua,uc,rfl⟩:=hL.shape;have Hnd:Hid (D7 ns).Nodup:=b1;have Hcall:Hid True:=trivial;clear a0 c0 b1;by_cases hll:l.length=ns.length
 case neg =>
  have HN:Hid (pB (J5 ps l)=false):=F3 (by rw[HP.out];exact λh=>hll h.1);go_wp2_with fail;go_ret;exact⟨D4 HN.out.symm,a4⟩
 have Hll:Hid (l.length=ns.length):=hll;go_upto_region 4 with fail;clear hll;have hn:ns.length<=1048576:=oM
 go_wp2_with fail;(try dsimp only[Iz,Sy,Sx,Nz,Vz,Tz,Ez,Pz]);go_loopw [6,7,21] (λ_ _ i w'=>∃k:Nat,k<=ns.length/\i=.int .i64 k/\Br l ns k/\Up w1 w') (λ_ _ i _=>ns.length-(intOf i).toNat)
 case atStart=>exact⟨0,oM,rfl,λj x hj _=>oM,A4 _ _⟩
 case round =>
  obtain⟨k,hk,rfl,hP,hB⟩:=hrel;have HPk:Hid (Br l ns k):=hP;clear hP;by_cases hkn:k<ns.length
  .have hp:k<l.length:=by have:=Hll.out;omega
   obtain⟨d0,d1⟩:=(hl.up (D3 a4 hB) hg).cells k hp;obtain⟨gu,cu,hu,e0,b5⟩:=AbF (hL.up hB) hkn;simp only[Value.slice.injEq] at hu;obtain⟨rfl,-,rfl⟩:=hu;obtain⟨zs,zt⟩:=hz l[k] dC;have N1:Hid (((l[k]).s.toList==(ns[k]).toList)=false->¬Eh l ns):=Br.no1 hp hkn;have N2:Hid (E4 (l[k]).t=false->¬Eh l ns):=Br.no2 hp;have N3:Hid (((l[k]).s.toList==(ns[k]).toList)=true->E4 (l[k]).t=true->Br l ns (k+1)):=HPk.out.step hp hkn;generalize l[k]=y at *;generalize ns[k]=s0 at *;have a7:=hB.alloc hB.size (Kz [Tz (y).s,Tz (y).t] 173);have hC:CB (wr.alloc (Kz [Tz (y).s,Tz (y).t] 173)) wr.heap.size [Tz y.s,Tz y.t]:=E9 wr _ _;have e1:=((A4 wr.heap.size wr).alloc (A3 _) (Kz [Tz (y).s,Tz (y).t] 173)).cell (p:=⟨gu,k,none⟩) b5 |>.trans e0
   go_upto_region 7 with fail;generalize wr.alloc (Kz [Tz (y).s,Tz (y).t] 173)=W1 at *;obtain⟨⟨b9,f1⟩,-⟩:=hC.c2;clear d0 d1 e0 hB;cases h1:(y.s.toList==s0.toList)
   .have Hno:Hid (pB (J5 ps l)=false):=F3 (by rw[HP.out];exact N1.out h1);go_wp2_with fail;go_quiet (fail);go_wp2;go_ret;exact⟨D4 Hno.out.symm,E5 (D3 a4 a7) _⟩
   .cases h2:E4 y.t
    .have Hno:Hid (pB (J5 ps l)=false):=F3 (by rw[HP.out];exact N2.out h2);go_wp2_with fail;go_region_with (go_at_call 80;refine (Z8 _ _ zt).mono ?_;rintro e w3 ⟨rfl,a9⟩)
     all_goals
      have a8:=D3 (D3 a4 a7).drew a9;go_wp2_with fail;go_ret;exact⟨D4 Hno.out.symm,a8⟩
    .have Hyes:Hid (Br l ns (k+1)):=N3.out h1 h2;go_wp2_with fail;go_region_with (go_at_call 80;refine (Z8 _ _ zt).mono ?_;rintro e w3 ⟨rfl,a9⟩)
     all_goals
      have a8:=D3 a7.drew a9;go_wp2_with fail;go_roundw
      case rel=>exact⟨k+1,oM,mO,Hyes.out,a8⟩
      case measure=>simp[intOf];omega
  .have HPl:Hid (Br l ns l.length):=by
    have:=HPk.out;rwa [show k=l.length by have:=Hll.out;omega] at this
   have a1:=D3 a4 hB;go_wp2_with fail;refine (Xe l _ g q cc _ Hll.out (hl.up a1 hg) (A1 hg a1.size) hn (λy hy=>(hz y hy).1)).mono ?_;rintro e w4 ⟨⟨M,D,rfl,hM,hD,-⟩,b0⟩;go_wp2_with fail;refine (GY l ns M _ D _ _ hM hD ((hL.up hB).up b0) b7 oM).mono ?_;rintro e w5 ⟨⟨u5,rfl,b2⟩,b3⟩;obtain⟨a5,c5,rfl⟩:=b2.lst.shape;have a2:(F8 (CQ l ns)).length=(CQ l ns).length:=by simp[F8]
   have Hc:Hid ((CQ l ns).length=l.length↔Eh l ns):=Br.count Hll.out HPl.out Hnd.out;have a3:=D3 (D3 a1 b0) b3;have c1:=Vw l ns;rw[a2];clear b2 hM hD b0 b3 a2;rw[Hll.out] at Hc;by_cases hq:(CQ l ns).length=ns.length
   .have Hq:Hid (pB (J5 ps l)=true):=M5 (by rw[HP.out];exact Hc.out.1 hq);go_wp2_with fail;go_ret;exact⟨D4 (by rw[Hq.out]),a3⟩
   .have Hq:Hid (pB (J5 ps l)=false):=F3 (by rw[HP.out];exact λh=>hq (Hc.out.2 h));go_wp2_with fail;go_ret;exact⟨D4 (by rw[Hq.out];simp;omega),a3⟩
end Go.Proofs.YtaffjphkobhagaaGreatDoor
