import Derived.Test.YtcphhbofjkenaaaGreatDoorMz
import Derived.WalkKit
import Derived.KernelRfl
namespace Go.Proofs.YtcphhbofjkenaaaGreatDoor
open Go Go.RowKit
theorem aP{p:Prop}(h:p:=by kernel_rfl):p:=h
theorem bO{p:Prop}(h:p:=by go_num):p:=h
theorem qb{p:Prop}(h:p:=by have hmk:=yO.out;go_simp):p:=h
theorem dB{p:Prop}(h:p:=by go_simp):p:=h
theorem yK{p:Prop}(h:p:=by simp[results,results168,go_sem,d0,d1,d2,d3,d4]):p:=h
theorem Gv{p:Prop}(h:p:=by simp[results,results171,go_sem,Inf.val,d0,d1,d2,d3,d4]):p:=h
theorem CM{p:Prop}(h:p:=by simp[results,results100,go_sem]):p:=h
theorem Gr{p:Prop}(h:p:=by simp[results,results103,go_sem]):p:=h
theorem Am{p:Prop}(h:p:=by simp[results,results52,go_sem]):p:=h
theorem Dd{p:Prop}(h:p:=by simp[results,results53,go_sem]):p:=h
theorem Ce{p:Prop}(h:p:=by simp[results,results28,go_sem]):p:=h
theorem Cv{p:Prop}(h:p:=by simp[results,results29,go_sem]):p:=h
theorem Vp{p:Prop}(h:p:=by rw[HR.out,←HT.out];simp[results,results171,go_sem,Inf.val,d0,d1,d2,d3,d4]):p:=h
theorem aal{p:Prop}(h:p:=by subst e;rw[←HF.wp]at hq;exact aZ HF.at_.cD HF.at_.bK (by decide) hq):p:=h
theorem abc{p:Prop}(h:p:=by subst e;rw[←HF.wp]at hq;exact aZ HF.at_.cY HF.at_.bK (by decide) hq):p:=h
theorem ab3{p:Prop}(h:p:=by rw[HR.out];simp[results,results171,go_sem,Inf.val,d0,d1,d2,d3,d4]):p:=h
theorem MP{p:Prop}(h:p:=by rw[HX.out];simp[results,results170,go_sem]):p:=h
theorem FE{p:Prop}(h:p:=by simp[results,results162,go_sem]):p:=h
theorem Jt{p:Prop}(h:p:=by simp[results,results64,go_sem]):p:=h
theorem KQ{p:Prop}(h:p:=by simp[results,results66,go_sem,Inf.val]):p:=h
theorem Kl{p:Prop}(h:p:=by simp[results,results72,go_sem,z0,z1,z2,z3,z4,z5,z6,z7]):p:=h
theorem abv{p:Prop}(h:p:=by have:=HF.at_.bK.frozen 2;rw[HF.wp]at this;exact this):p:=h
theorem YN{p:Prop}(h:p:=by simp[results,results170,go_sem,dR,d0,d1,d2,d3,d4]):p:=h
theorem Kq{p:Prop}(h:p:=by simp[results,results128,go_sem]):p:=h
theorem QP{p:Prop}(h:p:=by simp[results,results191,go_sem,c0,c1,c2,c3,c4]):p:=h
theorem Zw{p:Prop}(h:p:=by have:=HF.at_.bK.lt;rw[HF.wp]at this;exact this):p:=h
theorem zS{p:Prop}(h:p:=by simp[go_sem,bR]):p:=h
theorem Ge{p:Prop}(h:p:=by simp[results,results79,go_sem]):p:=h
theorem FI{p:Prop}(h:p:=by simp[results,results80,go_sem]):p:=h
end Go.Proofs.YtcphhbofjkenaaaGreatDoor
