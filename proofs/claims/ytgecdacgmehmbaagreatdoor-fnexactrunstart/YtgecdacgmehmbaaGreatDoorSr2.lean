/- The program fills its table of the instance []string. -/
import Derived.Test.YtgecdacgmehmbaaGreatDoorJ13
import Derived.Deep.RegionHeld
namespace Go.Proofs.YtgecdacgmehmbaaGreatDoor
open Go.RowKit
theorem Akz {W1 w0:World} {B:Nat} {x0 x1 x2 x3 x4 x5 x6 x7:Value} (h:Below W1.heap.size W1 w0/\w0.cell? ⟨B,0,none⟩=some x0/\w0.cell? ⟨B,1,none⟩=some x1/\w0.cell? ⟨B,2,none⟩=some x2/\w0.cell? ⟨B,3,none⟩=some x3/\w0.cell? ⟨B,4,none⟩=some x4/\w0.cell? ⟨B,5,none⟩=some x5/\w0.cell? ⟨B,6,none⟩=some x6/\w0.cell? ⟨B,7,none⟩=some x7):W1.heap.size<=w0.heap.size:=h.1.size
theorem AaO (n:Int) (w:World) :
  Calls Tryz.prog 153 #[.int .i64 n] w λe w'=>e=.returned (.slice none 0 0)/\w'=w:=by
 go_enter Tryz.func153,Tryz.ntmps153
 go_wp2
 go_ret
 exact⟨rfl,rfl⟩
theorem AlR:(Tryz.prog.info? 244).map (λi=>(i.zero,i.size,i.bytes))=some (some (.agg #[.string ⟨#[]⟩,.slice none 0 0]),2,40):=by kernel_rfl
theorem Afb {W W':World} {base base' m:Nat} {x:VK} {u:Value} {ys:List Value} (h:OwnV W base x) (ht:W.ownsRow base' 244 2 u m ys) (hg:W.grownBy W' u.ownBlock):OwnV W' base x:=by
 refine World.ownsRow.kept h hg ?_;rcases h.2 with⟨h0,_⟩|⟨g,cap,cur,hv,_,hh,_⟩
 ·left;rw[h0];rfl
 ·right
  rw[hv];rcases ht.2 with⟨k0,_⟩|⟨g',cap',cur',kv,_,kh,_⟩
  ·rw[k0];simp[Value.ownBlock]
  ·rw[kv]
   intro e;obtain rfl:g=g':=by simpa [Value.ownBlock] using e
   rw[hh] at kh;have:=A5 kh;injection this with _ h2
   exact absurd h2 (by decide)
theorem Agu {ps:List Ph} (hok:recB ps=true) (p:Ph) (hp:p∈ps):1<=p.k/\p.k<=5:=by
 obtain⟨_,_,ha⟩:=(I4 ps).1 hok;obtain⟨i,hi,rfl⟩:=B5 hp;have hs:=ha i ps[i] hi (by simp[hi]);simp only[stepI,Bool.and_eq_true,Ph.okB,phaseB] at hs;have h:=hs.1.1.1.1.1.2;unfold argsB at h;split at h
 ·omega
 ·split at h
  ·omega
  ·split at h
   ·omega
   ·split at h
    ·rename_i h4;rcases h4 with h4|h4<;>omega
    ·cases h
def endsS:List (ByteArray×VK):=[(good,nilR),(saved,nilR),(scrapped,nilR)]
theorem AiR:plainR endsS=fill feK fpK [] []:=rfl
set_option maxRecDepth 20000 in
set_option maxHeartbeats 4000000 in
theorem Ak0 (ps:List Ph) (b o c:Nat) (w:World) (hE:Ends w) (hr:RecAt w b o ps) (hb:b<w.heap.size) (hok:recB ps=true) :
  Calls Tryz.prog 152 #[.slice (some ⟨b,o,none⟩) ps.length c,.func (.func 153) #[] #[],.func (.func 154) #[] #[]] w
   λe w'=>(∃g cap rs,e=.returned (.slice (some ⟨g,0,none⟩) rs.length cap)/\plainR rs=fill feK fpK [] ps/\TabS w' w.heap.size g rs)/\Below w.heap.size w w':=by
 have HE:Hid (Ends w):=hE;obtain⟨g0,g1,g2,_⟩:=hE;have i0:∀w,(Instr.index 242 (.agg #[.string ⟨#[103,111,111,100]⟩,.string ⟨#[115,97,118,101,100]⟩,.string ⟨#[115,99,114,97,112,112,101,100]⟩]) (.int .i64 0)).run Tryz.prog w=.ok (.string ⟨#[103,111,111,100]⟩) w:=λ_=>by kernel_rfl
 have i1:∀w,(Instr.index 242 (.agg #[.string ⟨#[103,111,111,100]⟩,.string ⟨#[115,97,118,101,100]⟩,.string ⟨#[115,99,114,97,112,112,101,100]⟩]) (.int .i64 1)).run Tryz.prog w=.ok (.string ⟨#[115,97,118,101,100]⟩) w:=λ_=>by kernel_rfl
 have i2:∀w,(Instr.index 242 (.agg #[.string ⟨#[103,111,111,100]⟩,.string ⟨#[115,97,118,101,100]⟩,.string ⟨#[115,99,114,97,112,112,101,100]⟩]) (.int .i64 2)).run Tryz.prog w=.ok (.string ⟨#[115,99,114,97,112,112,101,100]⟩) w:=λ_=>by kernel_rfl
 go_enter Tryz.func152,Tryz.ntmps152
 obtain⟨ii,hi,hz0,hz1,hz2⟩:=info_parts AlR;go_wp2_with fail
 go_loopw [7,14] (λv i w'=>∃(k:Nat) (j:Int),k<=3/\j=k/\i=.int .i64 j/\w'.ownsRow w.heap.size 244 2 v (endsS.take k).length (rowSS (endsS.take k))/\Below w.heap.size w w') (λ_ i _=>3-(intOf i).toNat)
 case atStart=>exact⟨0,0,by omega,by omega,rfl,B7 _ _ _ _,A4 _ _⟩
 case round =>
  obtain⟨k,j,hk,hj,rfl,hown,hB⟩:=hrel;obtain rfl|rfl|rfl|rfl:k=0∨k=1∨k=2∨k=3:=by omega
  ·obtain rfl:j=0:=by omega
   clear hj;go_wp2_with (first|(go_at_call 175;refine (N7 _ _ (HE.out.up hB)).mono ?_;rintro e w' ⟨rfl,hw⟩;obtain rfl:=hw.symm;clear hw)|(go_at_call 153;refine (AaO _ _).mono ?_;rintro e w' ⟨rfl,hw⟩;obtain rfl:=hw.symm;clear hw)|(at_builtin;refine wpList_append_own _ rfl _ _ 213 rfl w.heap.size 244 ii _ 2 40 Tryz.underlying213 hi hz0 hz1 hz2 rfl (by decide) _ _ _ rfl (hown.alloc _) ⟨wr.heap.size,0,none⟩ 1 1 [.string ⟨#[103,111,111,100]⟩,.slice none 0 0] rfl rfl (λj u hj=>new2 _ _ _ _ hj) (λu hu=>one2 rfl hu) (by simp[maxLen,endsS]) (by simp[endsS]) (by have:=hB.size;simp;omega) ?_))
   intro v' w1 hown' hgrow _;have hB1:Below w.heap.size w w1:=(hB.alloc hB.size _).grown hgrow (by have:=hB.size;simp;omega) (λk hk=>(hown.lt k hk).1);clear hgrow hown hB;go_wp2_with fail
   go_roundw
   case rel=>exact⟨1,1,by omega,by omega,rfl,by simpa [endsS,rowSS,nilR,good,saved,scrapped] using hown',hB1⟩
   case measure=>simp[intOf]
  ·obtain rfl:j=1:=by omega
   clear hj;go_wp2_with (first|(go_at_call 175;refine (N7 _ _ (HE.out.up hB)).mono ?_;rintro e w' ⟨rfl,hw⟩;obtain rfl:=hw.symm;clear hw)|(go_at_call 153;refine (AaO _ _).mono ?_;rintro e w' ⟨rfl,hw⟩;obtain rfl:=hw.symm;clear hw)|(at_builtin;refine wpList_append_own _ rfl _ _ 213 rfl w.heap.size 244 ii _ 2 40 Tryz.underlying213 hi hz0 hz1 hz2 rfl (by decide) _ _ _ rfl (hown.alloc _) ⟨wr.heap.size,0,none⟩ 1 1 [.string ⟨#[115,97,118,101,100]⟩,.slice none 0 0] rfl rfl (λj u hj=>new2 _ _ _ _ hj) (λu hu=>one2 rfl hu) (by simp[maxLen,endsS]) (by simp[endsS]) (by have:=hB.size;simp;omega) ?_))
   intro v' w1 hown' hgrow _;have hB1:Below w.heap.size w w1:=(hB.alloc hB.size _).grown hgrow (by have:=hB.size;simp;omega) (λk hk=>(hown.lt k hk).1);clear hgrow hown hB;go_wp2_with fail
   go_roundw
   case rel=>exact⟨2,2,by omega,by omega,rfl,by simpa [endsS,rowSS,nilR,good,saved,scrapped] using hown',hB1⟩
   case measure=>simp[intOf]
  ·obtain rfl:j=2:=by omega
   clear hj;go_wp2_with (first|(go_at_call 175;refine (N7 _ _ (HE.out.up hB)).mono ?_;rintro e w' ⟨rfl,hw⟩;obtain rfl:=hw.symm;clear hw)|(go_at_call 153;refine (AaO _ _).mono ?_;rintro e w' ⟨rfl,hw⟩;obtain rfl:=hw.symm;clear hw)|(at_builtin;refine wpList_append_own _ rfl _ _ 213 rfl w.heap.size 244 ii _ 2 40 Tryz.underlying213 hi hz0 hz1 hz2 rfl (by decide) _ _ _ rfl (hown.alloc _) ⟨wr.heap.size,0,none⟩ 1 1 [.string ⟨#[115,99,114,97,112,112,101,100]⟩,.slice none 0 0] rfl rfl (λj u hj=>new2 _ _ _ _ hj) (λu hu=>one2 rfl hu) (by simp[maxLen,endsS]) (by simp[endsS]) (by have:=hB.size;simp;omega) ?_))
   intro v' w1 hown' hgrow _;have hB1:Below w.heap.size w w1:=(hB.alloc hB.size _).grown hgrow (by have:=hB.size;simp;omega) (λk hk=>(hown.lt k hk).1);clear hgrow hown hB;go_wp2_with fail
   go_roundw
   case rel=>exact⟨3,3,by omega,by omega,rfl,by simpa [endsS,rowSS,nilR,good,saved,scrapped] using hown',hB1⟩
   case measure=>simp[intOf]
  ·obtain rfl:j=3:=by omega
   clear i0 i1 i2 g0 g1 g2 hj;have h12:ps.length<=12:=((I4 ps).1 hok).2.1;have hown:wr.ownsRow w.heap.size 244 2 u7 endsS.length (rowSS endsS):=hown
   have hends:∀r∈endsS,OwnV wr w.heap.size r.2:=by
    intro r hr;simp only[endsS,List.mem_cons,List.not_mem_nil,or_false] at hr;rcases hr with rfl|rfl|rfl<;>exact Ags _ _
   go_wp2_with fail
   go_loopw [7,10] (λv i w'=>∃(k:Nat) (rs:List (ByteArray×VK)),k<=ps.length/\i=.int .i64 ((k:Int)-1)/\plainR rs=fill feK fpK [] (ps.drop k)/\w'.ownsRow w.heap.size 244 2 v rs.length (rowSS rs)/\(∀r∈rs,OwnV w' w.heap.size r.2)/\Below w.heap.size w w') (λ_ i _=>(intOf i+1).toNat)
   case atStart=>exact⟨ps.length,endsS,A3 _,rfl,by rw[List.drop_length];exact AiR,hown,hends,hB⟩
   case round =>
    clear hown hends hB;obtain⟨k,rs,hk2,rfl,hpl,hown2,hvs,hB2⟩:=hrel
    have hrl:rs.length=(ps.drop k).length+3:=by
     have:=congrArg List.length hpl;rw[Ad4] at this;simpa [plainR] using this
    obtain⟨g,cap,rfl⟩:=Am9 hown2 (by omega);have hT:=TabS.of_own hown2 hvs;cases k with
    | zero =>
     simp only[List.drop_zero] at hpl;clear hrl;go_wp2_with fail
     go_ret
     exact⟨⟨g,cap,rs,rfl,hpl,hT⟩,hB2⟩
    | succ m =>
     have hm:m<ps.length:=by omega
     obtain⟨c0,c1,c2,c3,c4,c5,c6,c7⟩:=hr.cells m hm;obtain⟨hc,hf⟩:=E2 hB2;have Hrl:Hid (rs.length=(ps.drop (m+1)).length+3):=hrl;clear hrl;go_wp2_with fail
     have hkk:=Agu hok ps[m] (by simp)
     have hlk:∀nm,(look rs nm nilR).2=slI (ps.drop (m+1)) nm:=λnm=>by
      rw[← Aa9,hpl,Ac4 _ _ _ _ (AeQ hok (m+1))];rfl
     have hll:∀nm,(namesOf (look rs nm nilR).2).length<=24:=λnm=>by
      have:=AeV (ps.drop (m+1)) nm;rw[hlk,namesOf,B3];rw[A8] at this;omega
     have HF:Hid (fill feK fpK [] (ps.drop m)=plainR rs++[((ps[m]).nm,fpK ps[m] (look rs (ps[m]).t nilR).2 (look rs (ps[m]).e nilR).2)]):=by
      show _=_
      rw[Akn feK fpK [] hm,← hpl,Aa9,Aa9]
     generalize ps[m]=p at *;have hS:∃W1,W1=wr.alloc (.cells #[.string p.nm,.int .i64 p.k,.string p.a,.string p.b,.int .i64 p.n,.int .i64 p.wi,.string p.t,.string p.e] 73):=⟨_,rfl⟩;obtain⟨W1,hW1⟩:=hS;rw[← hW1];have hW2:wr.heap.size<W1.heap.size:=by rw[hW1];simp
     have hS:Below W1.heap.size W1 W1/\W1.cell? ⟨wr.heap.size,0,none⟩=some (.string p.nm)/\W1.cell? ⟨wr.heap.size,1,none⟩=some (.int .i64 p.k)/\W1.cell? ⟨wr.heap.size,2,none⟩=some (.string p.a)/\W1.cell? ⟨wr.heap.size,3,none⟩=some (.string p.b)/\W1.cell? ⟨wr.heap.size,4,none⟩=some (.int .i64 p.n)/\W1.cell? ⟨wr.heap.size,5,none⟩=some (.int .i64 p.wi)/\W1.cell? ⟨wr.heap.size,6,none⟩=some (.string p.t)/\W1.cell? ⟨wr.heap.size,7,none⟩=some (.string p.e):=by rw[hW1];exact⟨A4 _ _,by simp,by simp,by simp,by simp,by simp,by simp,by simp,by simp⟩
     have hup:Below wr.heap.size wr W1:=by rw[hW1];exact (A4 _ _).alloc (A3 _) _
     have hT1:=hT.up hup;have Hown:=E0 hown2 hup;have hB3:=D5 hB2 hup;have hlen:rs.length<=1048576:=by have:=Hrl.out;rw[A8] at this;omega
     have hl1:=hll p.t;have hl2:=hll p.e;clear hW1 c0 c1 c2 c3 c4 c5 c6 c7 hc hf hT hown2 hup hown hvs hlk hll hpl
     go_region_held (λw'=>Below W1.heap.size W1 w'/\w'.cell? ⟨wr.heap.size,0,none⟩=some (.string p.nm)/\w'.cell? ⟨wr.heap.size,1,none⟩=some (.int .i64 p.k)/\w'.cell? ⟨wr.heap.size,2,none⟩=some (.string p.a)/\w'.cell? ⟨wr.heap.size,3,none⟩=some (.string p.b)/\w'.cell? ⟨wr.heap.size,4,none⟩=some (.int .i64 p.n)/\w'.cell? ⟨wr.heap.size,5,none⟩=some (.int .i64 p.wi)/\w'.cell? ⟨wr.heap.size,6,none⟩=some (.string p.t)/\w'.cell? ⟨wr.heap.size,7,none⟩=some (.string p.e)) (first|exact Akt hS|exact AmL hW2 (by assumption) (by assumption))
      (first
       | (go_at_call 155;refine (Ail rs w.heap.size g _ _ _ (hT1.up (And.left (by assumption))) hlen).mono ?_;rintro e w1 ⟨rfl,hb1⟩)
       | (go_at_call 154;have hszz:=Akz (by assumption);refine (Afx p (namesOf (look rs p.t nilR).2) (namesOf (look rs p.e nilR).2) _ _ _ hkk ((hT1.up (And.left (by assumption))).look _).lst ((hT1.up (And.left (by assumption))).look _).lst (by omega)).mono ?_;rintro e w3 ⟨⟨u,rfl,hou⟩,hb3⟩;rw[Aac,Aac] at hou;obtain⟨a9,n9,c9,hu9⟩:=OwnV.shape (x:=(u,_)) hou;subst hu9))
     rename_i hHeld;obtain⟨hU,e0,-⟩:=hHeld;have hown3:=E0 Hown hU;have hB4:=D5 hB3 hU;have hT3:=hT1.up hU;have hx:OwnV w3 w.heap.size (.slice a9 n9 c9,fpK p (look rs p.t nilR).2 (look rs p.e nilR).2):=F9 hou (by have:=hB3.size;omega);have hal:Below w3.heap.size w3 (w3.alloc (.cells #[.string p.nm,.slice a9 n9 c9] 244)):=(A4 _ _).alloc (A3 _) _;have hx1:=hx.up hal;have hT4:=hT3.up hal;have Hrl':rs.length<=16:=by have:=Hrl.out;rw[A8] at this;omega
     clear hS hT1 Hown hU hB3 hou hT3 hx hal hb1 hb3;go_wp2_with (at_builtin;refine wpList_append_own _ rfl _ _ 213 rfl w.heap.size 244 ii _ 2 40 Tryz.underlying213 hi hz0 hz1 hz2 rfl (by decide) _ _ _ rfl (hown3.alloc _) ⟨w3.heap.size,0,none⟩ 1 1 [.string p.nm,.slice a9 n9 c9] rfl rfl (λj u hj=>new2 _ _ _ _ hj) (λu hu=>one2 rfl hu) (by simp only[maxLen];omega) (by omega) (by have:=hB4.size;simp;omega) ?_)
     intro v' w5 hown' hgrow _;have hB5:Below w.heap.size w w5:=(hB4.alloc hB4.size _).grown hgrow (by have:=hB4.size;simp;omega) (λk hk=>(hown3.lt k hk).1)
     have hvs':∀r∈rs++[(p.nm,((.slice a9 n9 c9,fpK p (look rs p.t nilR).2 (look rs p.e nilR).2):VK))],OwnV w5 w.heap.size r.2:=by
      intro r hr;rcases D0.1 hr with hr|hr
      ·exact Afb (hT4.2.2 r hr) (hown3.alloc _) hgrow
      ·simp only[D1] at hr
       subst hr;exact Afb hx1 (hown3.alloc _) hgrow
     clear hgrow hown3 hB4 hT4 hx1;go_wp2_with fail
     go_roundw
     case rel=>exact⟨m,rs++[(p.nm,((.slice a9 n9 c9,fpK p (look rs p.t nilR).2 (look rs p.e nilR).2):VK))],by omega,by go_num,by rw[HF.out];simp[plainR],by rw[Agp,A9];exact hown',hvs',hB5⟩
     case measure=>simp[intOf]
end Go.Proofs.YtgecdacgmehmbaaGreatDoor
