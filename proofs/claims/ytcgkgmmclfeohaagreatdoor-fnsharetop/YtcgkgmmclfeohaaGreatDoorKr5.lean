/- The program's chapter 13: a batch taken out of a row (slices.Delete). -/
import Derived.Test.YtcgkgmmclfeohaaGreatDoorJ14
set_option maxRecDepth 20000
set_option maxHeartbeats 2000000
namespace Go.Proofs.YtcgkgmmclfeohaaGreatDoor
open Go.Proofs.Tryz
open Go.RowKit
theorem TH(ps:List Bv)(k g c base:Nat)(w:World)(hk:k<ps.length)(hn:ps.length<=100)(hrow:w.ownsRow base 57 3 (Sz g ps.length c) ps.length (E4 ps))(hone:∀u∈E4 ps,u.oneCell'=true)(ty:TypeId):
  ∃W w4,(Builtin.append_ #[24,24] 24 #[Sz g k c,Vz (if c=k+1 then some (⟨g,0,none⟩:Addr) else some ⟨g,(k+1)*3,none⟩) (ps.length-(k+1)) (c-(k+1))]).run prog w=.ok (Sz g (ps.length-1) c) W/\
   (Builtin.clear_ #[24] ty #[Vz (some ⟨g,(ps.length-1)*3,none⟩) 1 (c-(ps.length-1))]).run prog W=.ok (.tuple #[]) w4/\w4.ownsRow base 57 3 (Sz g (ps.length-1) c) (ps.length-1) (E4 (ps.take k++ps.drop (k+1)))/\w.grownBy W (some g)/\w.grownBy w4 (some g)/\ps.length<=c/\c<=9223372036854775807:=by
 obtain⟨ii,hi,b3,a6,b4⟩:=info_parts CR;obtain⟨hc,b5⟩:=GW hrow
 obtain⟨a3,a7,b6⟩:∃a3,w.heap[g]?=some (.cells a3 57 (0,0))/\a3.size=c*3:=by
  rcases hrow.2 with⟨h0,_⟩|⟨g',cap,a3,h',h1,h2,h3,h4,h5,h6⟩
  ·simp at h0
  ·obtain⟨e1,-,rfl⟩:=Value.slice.inj h';obtain rfl:g=g':=by simpa using e1
   exact⟨a3,h2,h5⟩
 have a1:=Aax hrow (Nat.le_of_lt hk);rw[MY ps k (by omega)] at a1
 obtain⟨o2,b7,b8⟩:∃o2:Nat,(if c=k+1 then some (⟨g,0,none⟩:Addr) else some ⟨g,(k+1)*3,none⟩)=some ⟨g,o2,none⟩/\(ps.length-(k+1)≠0->o2=(k+1)*3):=by
  by_cases h7:c=k+1
  ·exact⟨0,by rw[if_pos h7],λh=>by omega⟩
  ·exact⟨(k+1)*3,by rw[if_neg h7],λ_=>rfl⟩
 have a8:(E4 (ps.drop (k+1))).length=(ps.length-(k+1))*3:=by rw[R7,A8]
 have a5:∀(j:Nat)(u:Value),(E4 (ps.drop (k+1)))[j]?=some u->w.cell? ((⟨g,o2,none⟩:Addr).add j)=some u:=λj u hu=>by
  have hj:=(A2.1 hu).1;rw[b8 (by omega)];exact Cg hrow (k+1) (ps.drop (k+1)) (IR ps (k+1)) j u hu
 have a2:∀u∈E4 (ps.drop (k+1)),u.oneCell'=true:=λu hu=>hone u (by
  rw[← List.take_append_drop (k+1) ps,AP];exact List.mem_append_right _ hu)
 have a9:=run_append_room (P:=prog) w 24 24 57 ii underlying24 hi g k c a3 a7 ⟨g,o2,none⟩ (ps.length-(k+1)) (c-(k+1)) (E4 (ps.drop (k+1))) (by rw[a6];exact a8) a5 a2 (by omega) (by rw[a6,a8,b6];omega);obtain⟨v3,w3,b1,a0,b2,-⟩:=run_append_own (P:=prog) w base 24 24 57 ii _ 3 64 underlying24 hi b3 a6 b4 rfl (by decide) _ k _ a1 ⟨g,o2,none⟩ (ps.length-(k+1)) (c-(k+1)) (E4 (ps.drop (k+1))) a8 a5 a2 (by unfold maxLen;omega) (by omega) (by have:=(hrow.lt g rfl);omega)
 obtain⟨rfl,rfl⟩:v3=_/\w3=_:=by
  rw[a9] at b1;injection b1 with e1 e2
  exact⟨e1.symm,e2.symm⟩
 rw[← AP] at a0;have b0:k+(ps.length-(k+1))=ps.length-1:=by omega
 rw[b0] at a0 a9;generalize w.setRow g _=W at *;obtain⟨w4,b9,a4,c1⟩:=Wb a0 (by omega) (c-(ps.length-1)) ty;rw[b7];exact⟨W,w4,a9,b9,a4,b2,S3 b2 c1,by omega,by unfold maxLen at b5;omega⟩
theorem Wd(ps:List Bv)(k g c base:Nat)(w:World)(hk:k<ps.length)(hn:ps.length<=100)(hrow:w.ownsRow base 57 3 (Sz g ps.length c) ps.length (E4 ps))(hone:∀u∈E4 ps,u.oneCell'=true):
  Calls prog 83 #[Sz g ps.length c,Iz k,Iz ((k:Int)+1)] w
   λe w'=>e=.returned (Sz g (ps.length-1) c)/\w'.ownsRow base 57 3 (Sz g (ps.length-1) c) (ps.length-1) (E4 (ps.take k++ps.drop (k+1)))/\w.grownBy w' (some g):=by
 obtain⟨W,w4,a3,a4,a0,a5,hG,hc,a6⟩:=TH ps k g c base w.drew hk hn hrow hone 0;replace hG:w.grownBy w4 (some g):=S3 (Cb (F4 w _)) hG;go_in;go_wp2_with fail;have a1:Below 0 w w.drew:=(A4 _ _).drew;have a2:Below 0 w W:=Jp a1 (Nat.zero_le _) (b:=w.drew) hrow a5 (Nat.zero_le _);have a7:k<=c:=by omega
 have a8:k+1<=ps.length:=hk;have a9:(k:Int)+1<=(ps.length:Int):=by omega
 have b0:0<=(k:Int)+1:=by omega
 have b1:¬(ps.length:Int)<(k:Int)+1:=by omega
 refine T9 99 (λw'=>Below 0 w w') (by kernel_rfl) ?_;refine I2 0 rfl a1 ?_;refine I2 1 rfl a1 ?_;refine I2 2 rfl a1 ?_;refine I2 3 rfl a1 ?_;refine I2 4 rfl a1 ?_;refine I2 5 rfl a1 ?_;refine T0 6 rfl (λK hK=>?_);refine MZ rfl _ _ _ _ rfl _ _ _ _ rfl rfl a3 ?_;refine Y1 hK a2 ?_;clear hK K;refine T0 7 rfl (λK hK=>?_);go_simp;refine Y1 hK a2 ?_;clear hK K;refine Y2 (by kernel_rfl) ?_ _;have b2:ps.length-1<ps.length:=by omega
 have b3:ps.length-1<=ps.length:=by omega
 have b4:ps.length-(ps.length-1)=1:=by omega
 have b5:¬c=ps.length-1:=by omega
 have b6:((ps.length-1:Nat):Int)<=(ps.length:Int):=by omega
 go_wp2_with (at_builtin;refine Mm _ rfl _ _ rfl _ _ _ rfl a4 ?_)
 all_goals
  go_ret
  first
   | exact⟨rfl,a0,hG⟩
   | (subst h;exact⟨rfl,a0,hG⟩)
end Go.Proofs.YtcgkgmmclfeohaaGreatDoor
