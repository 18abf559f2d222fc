"""Bytebridge: converting binary messages while they are received."""
